/-
  kindOk in the program.
-/
import Derived.Test.YtkmijefheejcjaaKp08
import Derived.Test.YtkmijefheejcjaaKp09
namespace Go.Proofs.Ytkmijefheejcjaa
set_option maxRecDepth 100000
open Go.RowKit

set_option maxHeartbeats 400000 in
theorem kindOkB (k : Int) (b : Bool) (w : World) (h : kindB k = b) : Calls Try.prog 96 #[.int .i64 k] w fun e w' => e = .returned (.bool b) ∧ w = w' := by
  subst h
  by_cases h1 : k = 4
  · go_enter Try.func96, Try.ntmps96
    go_wp2
    go_ret
    exact ⟨ret_bool (by simp [kindB, *]), rfl⟩
  · go_enter Try.func96, Try.ntmps96
    go_wp2
    go_ret
    exact ⟨ret_bool (by simp [kindB, *]), rfl⟩
end Go.Proofs.Ytkmijefheejcjaa
