/-
  PrefixOk in the model.
-/
import Derived.Test.YtdndanbalmoklaaPfx
namespace Go.Proofs.Ytdndanbalmoklaa
set_option maxRecDepth 100000
open Go.RowKit

set_option maxHeartbeats 400000 in
theorem specPrefixOk_zero (p : Pf) (h : p = Pf.zero) (w : World) : Calls Try.prog 68 #[.agg #[.int .i64 p.base.k, .int .i64 p.base.a, .int .i64 p.base.b, .int .i64 p.base.c, .int .i64 p.base.d, .int .i64 p.len]] w fun e w' => e = .returned (.bool true) ∧ Below w.heap.size w w' := by
  have an := specAny p
  rw [decide_eq_true h] at an
  have AN := Lib.hid an
  clear an h
  obtain ⟨c0, c1, c2, c3, c4, c5⟩ := pf_cells w p 31
  go_enter Try.func68, Try.ntmps68
  go_wp2_with fail
  refine wp_region_quiet_below (by kernel_rfl) (by kernel_rfl) ?_
  repeat (go_big_quiet_step (((go_at_call 67; exact Calls.regrown_of (AN.out _)))))
  refine wpQuiet_nil ?_
  intro w2 hw2
  obtain ⟨⟨dq, osq⟩, hw2⟩ := hw2
  have B := below_regrown (w.alloc (.cells #[.int .i64 p.base.k, .int .i64 p.base.a, .int .i64 p.base.b, .int .i64 p.base.c, .int .i64 p.base.d, .int .i64 p.len] 31)) dq osq
  rw [← hw2] at B
  clear hw2 c0 c1 c2 c3 c4 c5
  go_wp2
  go_ret
  exact ⟨rfl, bthen (Joins.below_alloc1 w _) B⟩

set_option maxHeartbeats 400000 in
theorem specPrefixOk_bad (p : Pf) (h : ¬ p = Pf.zero) (hok : p.base.ok = false) (w : World) : Calls Try.prog 68 #[.agg #[.int .i64 p.base.k, .int .i64 p.base.a, .int .i64 p.base.b, .int .i64 p.base.c, .int .i64 p.base.d, .int .i64 p.len]] w fun e w' => e = .returned (.bool false) ∧ Below w.heap.size w w' := by
  have an := specAny p
  rw [decide_eq_false h] at an
  have AN := Lib.hid an
  have ao := specAddrOk p.base
  rw [hok] at ao
  have AO := Lib.hid ao
  clear an ao h hok
  obtain ⟨c0, c1, c2, c3, c4, c5⟩ := pf_cells w p 31
  go_enter Try.func68, Try.ntmps68
  go_wp2_with fail
  refine wp_region_quiet_below (by kernel_rfl) (by kernel_rfl) ?_
  repeat (go_big_quiet_step (first | (go_at_call 67; exact Calls.regrown_of (AN.out _)) | (go_at_call 119; exact Calls.regrown_of (AO.out _))))
  refine wpQuiet_nil ?_
  intro w2 hw2
  obtain ⟨⟨dq, osq⟩, hw2⟩ := hw2
  have B := below_regrown (w.alloc (.cells #[.int .i64 p.base.k, .int .i64 p.base.a, .int .i64 p.base.b, .int .i64 p.base.c, .int .i64 p.base.d, .int .i64 p.len] 31)) dq osq
  rw [← hw2] at B
  clear hw2 c0 c1 c2 c3 c4 c5
  go_wp2
  go_ret
  exact ⟨rfl, bthen (Joins.below_alloc1 w _) B⟩

set_option maxHeartbeats 400000 in
theorem specPrefixOk_neg (p : Pf) (h : ¬ p = Pf.zero) (hok : p.base.ok = true) (hl : p.len < 0) (w : World) : Calls Try.prog 68 #[.agg #[.int .i64 p.base.k, .int .i64 p.base.a, .int .i64 p.base.b, .int .i64 p.base.c, .int .i64 p.base.d, .int .i64 p.len]] w fun e w' => e = .returned (.bool false) ∧ Below w.heap.size w w' := by
  have an := specAny p
  rw [decide_eq_false h] at an
  have AN := Lib.hid an
  have ao := specAddrOk p.base
  rw [hok] at ao
  have AO := Lib.hid ao
  clear an ao h hok
  have hd : decide (0 ≤ p.len) = false := decide_eq_false (by omega)
  clear hl
  obtain ⟨c0, c1, c2, c3, c4, c5⟩ := pf_cells w p 31
  go_enter Try.func68, Try.ntmps68
  go_wp2_with fail
  refine wp_region_quiet_below (by kernel_rfl) (by kernel_rfl) ?_
  repeat (go_big_quiet_step (first | (go_at_call 67; exact Calls.regrown_of (AN.out _)) | (go_at_call 119; exact Calls.regrown_of (AO.out _))))
  refine wpQuiet_nil ?_
  intro w2 hw2
  obtain ⟨⟨dq, osq⟩, hw2⟩ := hw2
  have B := below_regrown (w.alloc (.cells #[.int .i64 p.base.k, .int .i64 p.base.a, .int .i64 p.base.b, .int .i64 p.base.c, .int .i64 p.base.d, .int .i64 p.len] 31)) dq osq
  rw [← hw2] at B
  clear hw2 c0 c1 c2 c3 c4 c5
  go_wp2
  go_ret
  exact ⟨rfl, bthen (Joins.below_alloc1 w _) B⟩

set_option maxHeartbeats 400000 in
theorem specPrefixOk_far (p : Pf) (h : ¬ p = Pf.zero) (hok : p.base.ok = true) (h0 : 0 ≤ p.len) (hl : p.base.bits < p.len) (w : World) : Calls Try.prog 68 #[.agg #[.int .i64 p.base.k, .int .i64 p.base.a, .int .i64 p.base.b, .int .i64 p.base.c, .int .i64 p.base.d, .int .i64 p.len]] w fun e w' => e = .returned (.bool false) ∧ Below w.heap.size w w' := by
  have an := specAny p
  rw [decide_eq_false h] at an
  have AN := Lib.hid an
  have ao := specAddrOk p.base
  rw [hok] at ao
  have AO := Lib.hid ao
  clear an ao h hok
  have hd : decide (p.len ≤ p.base.bits) = false := decide_eq_false (by omega)
  clear hl
  obtain ⟨c0, c1, c2, c3, c4, c5⟩ := pf_cells w p 31
  go_enter Try.func68, Try.ntmps68
  go_wp2_with fail
  refine wp_region_quiet_below (by kernel_rfl) (by kernel_rfl) ?_
  repeat (go_big_quiet_step (first | (go_at_call 67; exact Calls.regrown_of (AN.out _)) | (go_at_call 119; exact Calls.regrown_of (AO.out _)) | (go_at_call 124; exact Calls.regrown_of (specBits p.base _))))
  refine wpQuiet_nil ?_
  intro w2 hw2
  obtain ⟨⟨dq, osq⟩, hw2⟩ := hw2
  have B := below_regrown (w.alloc (.cells #[.int .i64 p.base.k, .int .i64 p.base.a, .int .i64 p.base.b, .int .i64 p.base.c, .int .i64 p.base.d, .int .i64 p.len] 31)) dq osq
  rw [← hw2] at B
  clear hw2 c0 c1 c2 c3 c4 c5
  go_wp2
  go_ret
  exact ⟨rfl, bthen (Joins.below_alloc1 w _) B⟩

set_option maxHeartbeats 400000 in
theorem specPrefixOk_in (p : Pf) (h : ¬ p = Pf.zero) (hok : p.base.ok = true) (h0 : 0 ≤ p.len) (h1 : p.len ≤ p.base.bits) (w : World) : Calls Try.prog 68 #[.agg #[.int .i64 p.base.k, .int .i64 p.base.a, .int .i64 p.base.b, .int .i64 p.base.c, .int .i64 p.base.d, .int .i64 p.len]] w fun e w' => e = .returned (.bool (decide (p.base.cut p.len = p.base))) ∧ Below w.heap.size w w' := by
  have an := specAny p
  rw [decide_eq_false h] at an
  have AN := Lib.hid an
  have ao := specAddrOk p.base
  rw [hok] at ao
  have AO := Lib.hid ao
  clear an ao h hok
  have ct := specCut p.base p.len
  have he := eq_ad (p.base.cut p.len) p.base
  obtain ⟨y, hy⟩ : ∃ y, y = p.base.cut p.len := ⟨_, rfl⟩
  rw [← hy] at ct he
  rw [← hy]
  have CT := Lib.hid ct
  clear ct hy
  obtain ⟨c0, c1, c2, c3, c4, c5⟩ := pf_cells w p 31
  go_enter Try.func68, Try.ntmps68
  go_wp2_with fail
  refine wp_region_quiet_below (by kernel_rfl) (by kernel_rfl) ?_
  repeat (go_big_quiet_step (first | (go_at_call 67; exact Calls.regrown_of (AN.out _)) | (go_at_call 119; exact Calls.regrown_of (AO.out _)) | (go_at_call 124; exact Calls.regrown_of (specBits p.base _)) | (go_at_call 82; exact Calls.regrown_of (CT.out _))))
  refine wpQuiet_nil ?_
  intro w2 hw2
  obtain ⟨⟨dq, osq⟩, hw2⟩ := hw2
  have B := below_regrown (w.alloc (.cells #[.int .i64 p.base.k, .int .i64 p.base.a, .int .i64 p.base.b, .int .i64 p.base.c, .int .i64 p.base.d, .int .i64 p.len] 31)) dq osq
  rw [← hw2] at B
  clear hw2 c0 c1 c2 c3 c4 c5
  go_wp2
  go_ret
  exact ⟨rfl, bthen (Joins.below_alloc1 w _) B⟩

theorem specPrefixOk (p : Pf) (w : World) : Calls Try.prog 68 #[.agg #[.int .i64 p.base.k, .int .i64 p.base.a, .int .i64 p.base.b, .int .i64 p.base.c, .int .i64 p.base.d, .int .i64 p.len]] w fun e w' => e = .returned (.bool p.ok) ∧ Below w.heap.size w w' := by
  by_cases h : p = Pf.zero
  · rw [show p.ok = true by simp [Pf.ok, h]]
    exact specPrefixOk_zero p h w
  · cases hok : p.base.ok
    · rw [show p.ok = false by simp [Pf.ok, h, hok]]
      exact specPrefixOk_bad p h hok w
    · by_cases h0 : 0 ≤ p.len
      · by_cases h1 : p.len ≤ p.base.bits
        · rw [show p.ok = decide (p.base.cut p.len = p.base) by simp [Pf.ok, h, hok, h0, h1]]
          exact specPrefixOk_in p h hok h0 h1 w
        · rw [show p.ok = false by simp [Pf.ok, h, hok, h1]]
          exact specPrefixOk_far p h hok h0 (by omega) w
      · rw [show p.ok = false by simp [Pf.ok, h, hok, h0]]
        exact specPrefixOk_neg p h hok (by omega) w
end Go.Proofs.Ytdndanbalmoklaa
