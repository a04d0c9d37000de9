/-
  What the laws' own helpers on slices of integers do: a copy, a comparison; a slice of integers that came in.
-/
import Derived.Test.YtdndanbalmoklaaRow
import Derived.Deep.QuietTactic
import Derived.BigQuiet
import Derived.ProofKit
import Derived.OpenShut
namespace Go.Proofs.Ytdndanbalmoklaa
set_option maxRecDepth 100000
open Go.RowKit

theorem int_fill (pre tail : List Int) (x b : Int) (k : Nat) (hk : pre.length = k) : (intsOf (pre ++ x :: tail)).set k (.int .i64 b) = intsOf ((pre ++ [b]) ++ tail) := by
  have h := set_mid (intsOf pre) (.int .i64 x) (.int .i64 b) (intsOf tail) k (by rw [intsOf_length]; exact hk)
  simpa [intsOf] using h

theorem int_copy (xs : List Int) (k : Nat) (h : k < xs.length) :
    (intsOf (xs.take k ++ List.replicate (xs.length - k) 0)).set k (.int .i64 xs[k]) = intsOf (xs.take (k + 1) ++ List.replicate (xs.length - (k + 1)) 0) := by
  rw [show xs.length - k = (xs.length - (k + 1)) + 1 by omega, List.replicate_succ, int_fill _ _ _ _ k (by simp; omega), take_snoc xs k h]



set_option maxHeartbeats 400000 in
/-- Two slices that read as the same integers are found equal. -/
theorem eqI (A D : Option Addr) (c d : Nat) (xs : List Int) (w : World) (hx : RV w w.heap.size A (intsOf xs)) (hy : RV w w.heap.size D (intsOf xs)) (hn : xs.length ≤ 1048576) :
    Calls Try.prog 52 #[.slice A xs.length c, .slice D xs.length d] w fun e w' => e = .returned (.bool true) ∧ Below w.heap.size w w' := by
  go_enter Try.func52, Try.ntmps52
  go_wp2
  go_loopw [5] (fun i wr => ∃ k m : Nat, k ≤ xs.length ∧ i = .int .i64 k ∧ wr = w.drewN m) (fun i _ => xs.length - (intOf i).toNat)
  case atStart => exact ⟨0, 0, Nat.zero_le _, rfl, rfl⟩
  case round =>
    obtain ⟨k, m, hk, rfl, rfl⟩ := hrel
    by_cases hlt : k < xs.length
    · obtain ⟨g, o, rfl, hg, hc⟩ := hx.int hlt
      obtain ⟨g', o', rfl, hg', hc'⟩ := hy.int hlt
      clear hx hy
      go_wp2
      go_quiet (fail)
      go_wp2
      go_roundw
      case rel => exact ⟨k + 1, _, by omega, by go_num, rfl⟩
      case measure => simp [intOf]; omega
    · go_wp2
      go_ret
      exact ⟨rfl, below_drewN (Below.refl _ _) _⟩

/-- A slice of integers that came in: what the walk is told of it. -/
structure InI (w : World) (A : Option Addr) (n c : Nat) (xs : List Int) : Prop where
  len : xs.length = n
  cap : n ≤ c
  big : c ≤ maxLen
  rb : RV w w.heap.size A (intsOf xs)
  wf : ∀ x ∈ xs, (Lit.int .i64 x).wf = true

open Go.ChangeShapes Go.WideShapes Go.ChangeAt in
theorem ints_in {H : Type} {enc : TypeId × Value → H} {w : World} {A : Option Addr} {n c : Nat} {d : DataW H} {p : List MemPlace} (h : DataW.Trod enc Try.prog w 0 (fun _ => true) true 65 (.slice A n c) d p) :
    ∃ xs, InI w A n c xs := by
  obtain ⟨fuel, hf⟩ := h
  rcases open_ints Try.underlying65 Try.underlying3 (by kernel_rfl) hf with ⟨hcs, _⟩ | ⟨x, l, cp, zs, hcs, _, hl, hm, hz, _, hcell, hwz⟩
  · simp [Value.cells] at hcs
    obtain ⟨rfl, rfl, rfl⟩ := hcs
    exact ⟨[], rfl, Nat.le_refl _, Nat.zero_le _, RV.nil_ _ _ _, by simp⟩
  · simp [Value.cells] at hcs
    obtain ⟨rfl, rfl, rfl⟩ := hcs
    simp only [if_true] at hz
    refine ⟨zs.take n, by simp; omega, hl, hm, fun hp => ?_, fun x hx => hwz x (List.mem_of_mem_take hx)⟩
    simp only [intsOf_length, List.length_take] at hp
    obtain ⟨g, o, spot⟩ := x
    have h0 := hcell 0 (by omega)
    have hspot : spot = none := by simpa [Addr.add] using World.cell?_spot h0
    subst hspot
    refine ⟨g, o, rfl, ?_, fun j u hu => ?_⟩
    · have := World.block_lt_of_cell? w _ h0
      simpa [addr_add] using this
    · simp only [intsOf, List.getElem?_map, Option.map_eq_some_iff, List.getElem?_take] at hu
      obtain ⟨z, hz1, rfl⟩ := hu
      split at hz1
      · have hj : j < zs.length := by omega
        have hc := hcell j hj
        rw [addr_add] at hc
        rw [hc]
        have hzj : zs[j] = z := by rw [List.getElem?_eq_getElem hj] at hz1; simpa using hz1
        simp [hj, hzj]
      · cases hz1
end Go.Proofs.Ytdndanbalmoklaa
