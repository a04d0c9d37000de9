/-
  What FourOk calls, in the program; FourOk in the model.
-/
import Derived.Test.YtegpaocoepcemaaFour
import Derived.Test.YtegpaocoepcemaaAddrBytes
namespace Go.Proofs.Ytegpaocoepcemaa
set_option maxRecDepth 100000
open Go.RowKit

theorem withinU (n hi : Int) (b : Bool) (w : World) (h : upTo n hi = b) : Calls Try.prog 41 #[.int .i64 n, .int .i64 0, .int .i64 hi] w fun e w' => e = .returned (.bool b) ∧ Below w.heap.size w w' := by
  cases b
  · exact (within_no n 0 hi w (by simp [upTo] at h; omega)).mono fun _ _ ⟨he, hw⟩ => ⟨he, hw ▸ Below.refl _ _⟩
  · simp [upTo] at h
    exact (within_yes n 0 hi w h.1 h.2).mono fun _ _ ⟨he, hw⟩ => ⟨he, hw ▸ Below.refl _ _⟩

set_option maxHeartbeats 400000 in
theorem fourAddrOkC (x : Ad) (w : World) : Calls Try.prog 113 #[.agg #[.int .i64 x.k, .int .i64 x.a, .int .i64 x.b, .int .i64 x.c, .int .i64 x.d]] w fun e w' => e = .returned (.bool (adOk4 x)) ∧ Below w.heap.size w w' := by
  by_cases h : x.k = 4
  · have H := Lib.hid (show adOk4 x = x.ok by simp [adOk4, h])
    obtain ⟨k, a, b, c, d⟩ := x
    simp only at h
    subst h
    go_enter Try.func113, Try.ntmps113
    go_wp2_with (go_at_call 85; refine (implAddrOk ⟨4, a, b, c, d⟩ _).mono ?_; rintro e w' ⟨rfl, b1⟩)
    go_ret
    exact ⟨ret_bool H.out.symm, bthen (Joins.below_alloc1 w _) b1⟩
  · have H := Lib.hid (show adOk4 x = false by simp [adOk4, h])
    go_enter Try.func113, Try.ntmps113
    go_wp2
    go_ret
    exact ⟨ret_bool H.out.symm, by go_grown⟩
theorem adOk4B (x : Ad) (b : Bool) (w : World) (h : adOk4 x = b) : Calls Try.prog 113 #[.agg #[.int .i64 x.k, .int .i64 x.a, .int .i64 x.b, .int .i64 x.c, .int .i64 x.d]] w fun e w' => e = .returned (.bool b) ∧ Below w.heap.size w w' := h ▸ fourAddrOkC x w

set_option maxHeartbeats 400000 in
theorem optC (A : Option Addr) (n c : Nat) (w : World) : Calls Try.prog 114 #[.slice A n c] w fun e w' => e = .returned (.bool (optOk n)) ∧ Below w.heap.size w w' := by
  go_enter Try.func114, Try.ntmps114
  go_wp2
  all_goals (go_ret; exact ⟨ret_bool (by rw [Bool.eq_iff_iff]; simp [optOk]; omega), by go_grown⟩)
theorem optB (A : Option Addr) (n c : Nat) (b : Bool) (w : World) (h : optOk n = b) : Calls Try.prog 114 #[.slice A n c] w fun e w' => e = .returned (.bool b) ∧ Below w.heap.size w w' := h ▸ optC A n c w

set_option maxHeartbeats 400000 in
theorem fourHeadC (x : Fh) (A D : Option Addr) (n c m d : Nat) (w : World) (hn : n ≤ 1048576) : Calls Try.prog 102 #[.agg #[.int .i64 x.dscp, .int .i64 x.ecn, .int .i64 x.id, .int .i64 x.flags, .int .i64 x.frag, .int .i64 x.ttl, .int .i64 x.proto, .int .i64 x.src.k, .int .i64 x.src.a, .int .i64 x.src.b, .int .i64 x.src.c, .int .i64 x.src.d, .int .i64 x.dst.k, .int .i64 x.dst.a, .int .i64 x.dst.b, .int .i64 x.dst.c, .int .i64 x.dst.d, .slice A n c, .slice D m d]] w fun e w' => e = .returned (.int .i64 (20 + (n : Int))) ∧ Below w.heap.size w w' := by
  go_enter Try.func102, Try.ntmps102
  go_wp2
  go_ret
  exact ⟨rfl, by go_grown⟩

set_option maxHeartbeats 400000 in
theorem specIn (n hi : Int) (w : World) : Calls Try.prog 40 #[.int .i64 n, .int .i64 hi] w fun e w' => e = .returned (.bool (upTo n hi)) ∧ w = w' := by
  go_enter Try.func40, Try.ntmps40
  go_wp2
  all_goals (go_ret; exact ⟨ret_bool (by simp [upTo]; try omega), rfl⟩)
end Go.Proofs.Ytegpaocoepcemaa
