/-
  What FourOk calls, in the program; FourOk in the model.
-/
import Derived.Test.YthcmecmjmnimhaaFour
import Derived.Test.YthcmecmjmnimhaaAddrBytes
namespace Go.Proofs.Ythcmecmjmnimhaa
set_option maxRecDepth 100000
open Go.RowKit

theorem withinU (n hi : Int) (b : Bool) (w : World) (h : upTo n hi = b) : Calls Try.prog 42 #[.int .i64 n, .int .i64 0, .int .i64 hi] w fun e w' => e = .returned (.bool b) ∧ Below w.heap.size w w' := by
  cases b
  · exact (within_no n 0 hi w (by simp [upTo] at h; omega)).mono fun _ _ ⟨he, hw⟩ => ⟨he, hw ▸ Below.refl _ _⟩
  · simp [upTo] at h
    exact (within_yes n 0 hi w h.1 h.2).mono fun _ _ ⟨he, hw⟩ => ⟨he, hw ▸ Below.refl _ _⟩



set_option maxHeartbeats 400000 in
theorem optC (A : Option Addr) (n c : Nat) (w : World) : Calls Try.prog 149 #[.slice A n c] w fun e w' => e = .returned (.bool (optOk n)) ∧ Below w.heap.size w w' := by
  go_enter Try.func149, Try.ntmps149
  go_wp2
  all_goals (go_ret; exact ⟨ret_bool (by rw [Bool.eq_iff_iff]; simp [optOk]; omega), by go_grown⟩)
theorem optB (A : Option Addr) (n c : Nat) (b : Bool) (w : World) (h : optOk n = b) : Calls Try.prog 149 #[.slice A n c] w fun e w' => e = .returned (.bool b) ∧ Below w.heap.size w w' := h ▸ optC A n c w



set_option maxHeartbeats 400000 in
theorem specIn (n hi : Int) (w : World) : Calls Try.prog 39 #[.int .i64 n, .int .i64 hi] w fun e w' => e = .returned (.bool (upTo n hi)) ∧ w = w' := by
  go_enter Try.func39, Try.ntmps39
  go_wp2
  all_goals (go_ret; exact ⟨ret_bool (by simp [upTo]; try omega), rfl⟩)
end Go.Proofs.Ythcmecmjmnimhaa
