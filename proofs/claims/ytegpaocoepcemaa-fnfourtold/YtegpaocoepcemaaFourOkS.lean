/-
  FourOk in the model.
-/
import Derived.Test.YtegpaocoepcemaaFourOk
namespace Go.Proofs.Ytegpaocoepcemaa
set_option maxRecDepth 100000
open Go.RowKit

set_option maxHeartbeats 4000000 in
theorem specFourOk (x : Fh) (A D : Option Addr) (n c m d : Nat) (w : World) (hn : n ≤ 1048576) : Calls Try.prog 37 #[.agg #[.int .i64 x.dscp, .int .i64 x.ecn, .int .i64 x.id, .int .i64 x.flags, .int .i64 x.frag, .int .i64 x.ttl, .int .i64 x.proto, .int .i64 x.src.k, .int .i64 x.src.a, .int .i64 x.src.b, .int .i64 x.src.c, .int .i64 x.src.d, .int .i64 x.dst.k, .int .i64 x.dst.a, .int .i64 x.dst.b, .int .i64 x.dst.c, .int .i64 x.dst.d, .slice A n c, .slice D m d]] w fun e w' => e = .returned (.bool (x.ok n m)) ∧ Below w.heap.size w w' := by
  go_enter Try.func37, Try.ntmps37
  go_wp2_with (first | (go_at_call 40; refine (specIn _ _ _).mono ?_; rintro e w' ⟨rfl, rfl⟩) | (go_at_call 84; refine (specHalf _ _).mono ?_; rintro e w' ⟨rfl, rfl⟩) | (go_at_call 50; go_in))
  all_goals
    go_ret
    refine ⟨ret_bool ?_, by go_grown⟩
    first
      | (simp [Fh.ok, Fh.small, adOk4, optOk, Ad.ok, *]; done)
      | (rw [Bool.eq_iff_iff]; simp [Fh.ok, Fh.small, adOk4, optOk, Ad.ok, *]; omega)
      | (rw [Bool.eq_iff_iff, Fh.ok_iff, adOk4_iff, adOk4_iff]; simp only [upTo, half, decide_eq_true_eq] at *; simp at *; omega)
end Go.Proofs.Ytegpaocoepcemaa
