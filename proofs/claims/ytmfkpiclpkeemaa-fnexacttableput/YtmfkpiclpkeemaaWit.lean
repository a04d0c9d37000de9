/-
  The program's test whether a number lies within two bounds.
-/
import Derived.Test.YtmfkpiclpkeemaaRuLib
import Derived.Test.YtmfkpiclpkeemaaBe
namespace Go.Proofs.Ytmfkpiclpkeemaa
set_option maxRecDepth 100000
open Go.RowKit

theorem ruleW (lo n hi : Int) (b : Bool) (h : btw lo n hi = b) (w : World) : Calls Try.prog 63 #[.int .i64 n, .int .i64 lo, .int .i64 hi] w fun e w' => e = .returned (.bool b) ∧ Below w.heap.size w w' := by
  subst h
  by_cases h1 : lo ≤ n
  · by_cases h2 : n ≤ hi
    · exact (within_yes n lo hi w h1 h2).mono fun _ _ ⟨he, hw⟩ => ⟨he.trans (ret_bool (by simp [btw, h1, h2])), hw ▸ Below.refl _ _⟩
    · exact (within_no n lo hi w (by omega)).mono fun _ _ ⟨he, hw⟩ => ⟨he.trans (ret_bool (by simp [btw, h2])), hw ▸ Below.refl _ _⟩
  · exact (within_no n lo hi w (by omega)).mono fun _ _ ⟨he, hw⟩ => ⟨he.trans (ret_bool (by simp [btw, h1])), hw ▸ Below.refl _ _⟩
theorem protoR (p : Int) (b : Bool) (w : World) (h : upTo p 255 = b) : Calls Try.prog 103 #[.int .i64 p] w fun e w' => e = .returned (.bool b) ∧ Below w.heap.size w w' := by
  have H := Lib.hid h
  clear h
  go_enter Try.func103, Try.ntmps103
  go_wp2_with fail
  refine Calls.mono (ruleW 0 p 255 b H.out _) ?_
  rintro e w1 ⟨rfl, b1⟩
  go_wp2
  go_ret
  exact ⟨rfl, b1⟩
end Go.Proofs.Ytmfkpiclpkeemaa
