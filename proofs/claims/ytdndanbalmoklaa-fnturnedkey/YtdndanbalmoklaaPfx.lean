/-
  Prefixes: the one that holds all addresses; PrefixOk in the program and in the model.
-/
import Derived.Test.YtdndanbalmoklaaEqArr
import Derived.Test.YtdndanbalmoklaaCutSpec2
import Derived.Lib.QuietBelow
namespace Go.Proofs.Ytdndanbalmoklaa
set_option maxRecDepth 100000
open Go.RowKit

theorem Ad.ext_iff' (x y : Ad) : x = y ↔ x.k = y.k ∧ x.a = y.a ∧ x.b = y.b ∧ x.c = y.c ∧ x.d = y.d := by
  cases x
  cases y
  simp
theorem Pf.zero_iff (p : Pf) : p = Pf.zero ↔ (p.base.k = 0 ∧ p.base.a = 0 ∧ p.base.b = 0 ∧ p.base.c = 0 ∧ p.base.d = 0) ∧ p.len = 0 := by
  obtain ⟨⟨k, a, b, c, d⟩, n⟩ := p
  simp [Pf.zero, Ad.zero]

set_option maxHeartbeats 400000 in
theorem eq_ad (x y : Ad) (w : World) : (Op.equalIn 10000 29 (.agg #[.int .i64 x.k, .int .i64 x.a, .int .i64 x.b, .int .i64 x.c, .int .i64 x.d]) (.agg #[.int .i64 y.k, .int .i64 y.a, .int .i64 y.b, .int .i64 y.c, .int .i64 y.d])).run Try.prog w = .ok (decide (x = y)) w := by
  go_simp
  repeat' split
  all_goals simp [Ad.ext_iff', *]

set_option maxHeartbeats 400000 in
theorem eq_pf (p : Pf) (w : World) : (Op.equalIn 10000 31 (.agg #[.int .i64 p.base.k, .int .i64 p.base.a, .int .i64 p.base.b, .int .i64 p.base.c, .int .i64 p.base.d, .int .i64 p.len]) (.agg #[.int .i64 0, .int .i64 0, .int .i64 0, .int .i64 0, .int .i64 0, .int .i64 0])).run Try.prog w = .ok (decide (p = Pf.zero)) w := by
  go_simp
  repeat' split
  all_goals simp [Pf.zero_iff, *]

set_option maxHeartbeats 400000 in
theorem specAny (p : Pf) (w : World) : Calls Try.prog 67 #[.agg #[.int .i64 p.base.k, .int .i64 p.base.a, .int .i64 p.base.b, .int .i64 p.base.c, .int .i64 p.base.d, .int .i64 p.len]] w fun e w' => e = .returned (.bool (decide (p = Pf.zero))) ∧ Below w.heap.size w w' := by
  go_enter Try.func67, Try.ntmps67
  go_wp2
  all_goals (go_ret; exact ⟨ret_bool (by simp [Pf.zero_iff, *]), by go_grown⟩)

set_option maxHeartbeats 400000 in
theorem implPrefixOk_zero (p : Pf) (h : p = Pf.zero) (w : World) : Calls Try.prog 72 #[.agg #[.int .i64 p.base.k, .int .i64 p.base.a, .int .i64 p.base.b, .int .i64 p.base.c, .int .i64 p.base.d, .int .i64 p.len]] w fun e w' => e = .returned (.bool true) ∧ Below w.heap.size w w' := by
  have hq := eq_pf p
  subst h
  rw [decide_eq_true rfl] at hq
  go_enter Try.func72, Try.ntmps72
  go_wp2
  go_ret
  exact ⟨rfl, by go_grown⟩

/-- What a call that turns nothing old hands on in a region that only reads. -/
theorem regrown_same {P : Program} {f : FuncId} {args : Array Value} {w : World} {d : Nat} {os : Array Obj} {v : Value}
    (h : Calls P f args (Sort.grow (redrawn w d) os) fun e w' => e = .returned v ∧ Sort.grow (redrawn w d) os = w') : Calls P f args (Sort.grow (redrawn w d) os) fun e w'' => e = .returned v ∧ ∃ p : Regrown, w'' = Sort.grow (redrawn w p.d) p.os :=
  Calls.regrown_of (h.mono fun _ _ ⟨he, hw⟩ => ⟨he, by rw [← hw]; exact Below.refl _ _⟩)

/-- The six cells of a prefix that was boxed. -/
theorem pf_cells (w : World) (p : Pf) (t : TypeId) : (∀ d os, (Sort.grow (redrawn (w.alloc (.cells #[.int .i64 p.base.k, .int .i64 p.base.a, .int .i64 p.base.b, .int .i64 p.base.c, .int .i64 p.base.d, .int .i64 p.len] t)) d) os).cell? ⟨w.heap.size, 0, none⟩ = some (.int .i64 p.base.k)) ∧
    (∀ d os, (Sort.grow (redrawn (w.alloc (.cells #[.int .i64 p.base.k, .int .i64 p.base.a, .int .i64 p.base.b, .int .i64 p.base.c, .int .i64 p.base.d, .int .i64 p.len] t)) d) os).cell? ⟨w.heap.size, 1, none⟩ = some (.int .i64 p.base.a)) ∧
    (∀ d os, (Sort.grow (redrawn (w.alloc (.cells #[.int .i64 p.base.k, .int .i64 p.base.a, .int .i64 p.base.b, .int .i64 p.base.c, .int .i64 p.base.d, .int .i64 p.len] t)) d) os).cell? ⟨w.heap.size, 2, none⟩ = some (.int .i64 p.base.b)) ∧
    (∀ d os, (Sort.grow (redrawn (w.alloc (.cells #[.int .i64 p.base.k, .int .i64 p.base.a, .int .i64 p.base.b, .int .i64 p.base.c, .int .i64 p.base.d, .int .i64 p.len] t)) d) os).cell? ⟨w.heap.size, 3, none⟩ = some (.int .i64 p.base.c)) ∧
    (∀ d os, (Sort.grow (redrawn (w.alloc (.cells #[.int .i64 p.base.k, .int .i64 p.base.a, .int .i64 p.base.b, .int .i64 p.base.c, .int .i64 p.base.d, .int .i64 p.len] t)) d) os).cell? ⟨w.heap.size, 4, none⟩ = some (.int .i64 p.base.d)) ∧
    (∀ d os, (Sort.grow (redrawn (w.alloc (.cells #[.int .i64 p.base.k, .int .i64 p.base.a, .int .i64 p.base.b, .int .i64 p.base.c, .int .i64 p.base.d, .int .i64 p.len] t)) d) os).cell? ⟨w.heap.size, 5, none⟩ = some (.int .i64 p.len)) :=
  ⟨cell_regrown (by simp [go_sem]), cell_regrown (by simp [go_sem]), cell_regrown (by simp [go_sem]), cell_regrown (by simp [go_sem]), cell_regrown (by simp [go_sem]), cell_regrown (by simp [go_sem])⟩

set_option maxHeartbeats 400000 in
theorem implPrefixOk_bad (p : Pf) (h : ¬ p = Pf.zero) (hok : p.base.ok = false) (w : World) : Calls Try.prog 72 #[.agg #[.int .i64 p.base.k, .int .i64 p.base.a, .int .i64 p.base.b, .int .i64 p.base.c, .int .i64 p.base.d, .int .i64 p.len]] w fun e w' => e = .returned (.bool false) ∧ Below w.heap.size w w' := by
  have hq := eq_pf p
  rw [decide_eq_false h] at hq
  have ao := implAddrOk p.base
  rw [hok] at ao
  have AO := Lib.hid ao
  clear hok h ao
  obtain ⟨c0, c1, c2, c3, c4, c5⟩ := pf_cells w p 31
  go_enter Try.func72, Try.ntmps72
  go_wp2_with fail
  refine wp_region_quiet_below (by kernel_rfl) (by kernel_rfl) ?_
  repeat (go_big_quiet_step ((go_at_call 125; exact Calls.regrown_of (AO.out _))))
  refine wpQuiet_nil ?_
  intro w2 hw2
  obtain ⟨⟨dq, osq⟩, hw2⟩ := hw2
  have B := below_regrown (w.alloc (.cells #[.int .i64 p.base.k, .int .i64 p.base.a, .int .i64 p.base.b, .int .i64 p.base.c, .int .i64 p.base.d, .int .i64 p.len] 31)) dq osq
  rw [← hw2] at B
  clear hw2 c0 c1 c2 c3 c4 c5
  go_wp2
  go_ret
  exact ⟨rfl, bthen (Joins.below_alloc1 w _) B⟩

set_option maxHeartbeats 400000 in
theorem implPrefixOk_len (p : Pf) (h : ¬ p = Pf.zero) (hok : p.base.ok = true) (hl : p.len < 0 ∨ p.base.bits < p.len) (w : World) : Calls Try.prog 72 #[.agg #[.int .i64 p.base.k, .int .i64 p.base.a, .int .i64 p.base.b, .int .i64 p.base.c, .int .i64 p.base.d, .int .i64 p.len]] w fun e w' => e = .returned (.bool false) ∧ Below w.heap.size w w' := by
  have hq := eq_pf p
  rw [decide_eq_false h] at hq
  have ao := implAddrOk p.base
  rw [hok] at ao
  have AO := Lib.hid ao
  have HK := Lib.hid (bits_is p.base hok)
  have HN := Lib.hid hl
  clear hok h hl ao
  obtain ⟨c0, c1, c2, c3, c4, c5⟩ := pf_cells w p 31
  go_enter Try.func72, Try.ntmps72
  go_wp2_with fail
  refine wp_region_quiet_below (by kernel_rfl) (by kernel_rfl) ?_
  repeat (go_big_quiet_step (first | (go_at_call 125; exact Calls.regrown_of (AO.out _)) | (go_at_call 126; exact regrown_same (HK.out _)) | (go_at_call 76; exact regrown_same (within_no _ _ _ _ HN.out))))
  refine wpQuiet_nil ?_
  intro w2 hw2
  obtain ⟨⟨dq, osq⟩, hw2⟩ := hw2
  have B := below_regrown (w.alloc (.cells #[.int .i64 p.base.k, .int .i64 p.base.a, .int .i64 p.base.b, .int .i64 p.base.c, .int .i64 p.base.d, .int .i64 p.len] 31)) dq osq
  rw [← hw2] at B
  clear hw2 c0 c1 c2 c3 c4 c5
  go_wp2
  go_ret
  exact ⟨rfl, bthen (Joins.below_alloc1 w _) B⟩

set_option maxHeartbeats 400000 in
theorem implPrefixOk_in (p : Pf) (h : ¬ p = Pf.zero) (hok : p.base.ok = true) (h0 : 0 ≤ p.len) (h1 : p.len ≤ p.base.bits) (w : World) : Calls Try.prog 72 #[.agg #[.int .i64 p.base.k, .int .i64 p.base.a, .int .i64 p.base.b, .int .i64 p.base.c, .int .i64 p.base.d, .int .i64 p.len]] w fun e w' => e = .returned (.bool (decide (p.base.cut p.len = p.base))) ∧ Below w.heap.size w w' := by
  have hq := eq_pf p
  rw [decide_eq_false h] at hq
  have ao := implAddrOk p.base
  rw [hok] at ao
  have AO := Lib.hid ao
  have HK := Lib.hid (bits_is p.base hok)
  have fb := firstBitsC p.base p.len hok h0 h1
  have hl : (cutB (128 - p.base.bits + p.len).toNat p.base.whole).length = 16 := by rw [cutB_length, Ad.whole_length]
  have he := eq_arr _ _ hl p.base.whole_length
  have hd : decide (cutB (128 - p.base.bits + p.len).toNat p.base.whole = p.base.whole) = decide (p.base.cut p.len = p.base) := by
    rw [decide_eq_decide]
    exact (Ad.cut_eq ⟨hok, h0, h1⟩ hok rfl).symm
  rw [hd] at he
  obtain ⟨Y, hY⟩ : ∃ Y, Y = cutB (128 - p.base.bits + p.len).toNat p.base.whole := ⟨_, rfl⟩
  rw [← hY] at he fb
  obtain ⟨b, hb⟩ : ∃ b : Bool, b = decide (p.base.cut p.len = p.base) := ⟨_, rfl⟩
  rw [← hb] at he
  rw [← hb]
  have FB := Lib.hid fb
  have H0 := Lib.hid (And.intro h0 h1)
  clear hok h ao fb hl hd hY hb h0 h1
  obtain ⟨c0, c1, c2, c3, c4, c5⟩ := pf_cells w p 31
  go_enter Try.func72, Try.ntmps72
  go_wp2_with fail
  refine wp_region_quiet_below (by kernel_rfl) (by kernel_rfl) ?_
  repeat (go_big_quiet_step (first | (go_at_call 125; exact Calls.regrown_of (AO.out _)) | (go_at_call 126; exact regrown_same (HK.out _)) | (go_at_call 76; exact regrown_same (within_yes _ _ _ _ H0.out.1 H0.out.2)) | (go_at_call 127; exact Calls.regrown_of (FB.out _)) | (go_at_call 128; exact Calls.regrown_of (packedC p.base _))))
  refine wpQuiet_nil ?_
  intro w2 hw2
  obtain ⟨⟨dq, osq⟩, hw2⟩ := hw2
  have B := below_regrown (w.alloc (.cells #[.int .i64 p.base.k, .int .i64 p.base.a, .int .i64 p.base.b, .int .i64 p.base.c, .int .i64 p.base.d, .int .i64 p.len] 31)) dq osq
  rw [← hw2] at B
  clear hw2 c0 c1 c2 c3 c4 c5
  go_wp2
  go_ret
  exact ⟨rfl, bthen (Joins.below_alloc1 w _) B⟩

theorem implPrefixOk (p : Pf) (w : World) : Calls Try.prog 72 #[.agg #[.int .i64 p.base.k, .int .i64 p.base.a, .int .i64 p.base.b, .int .i64 p.base.c, .int .i64 p.base.d, .int .i64 p.len]] w fun e w' => e = .returned (.bool p.ok) ∧ Below w.heap.size w w' := by
  by_cases h : p = Pf.zero
  · rw [show p.ok = true by simp [Pf.ok, h]]
    exact implPrefixOk_zero p h w
  · cases hok : p.base.ok
    · rw [show p.ok = false by simp [Pf.ok, h, hok]]
      exact implPrefixOk_bad p h hok w
    · by_cases hl : 0 ≤ p.len ∧ p.len ≤ p.base.bits
      · rw [show p.ok = decide (p.base.cut p.len = p.base) by simp [Pf.ok, h, hok, hl]]
        exact implPrefixOk_in p h hok hl.1 hl.2 w
      · rw [show p.ok = false by simp [Pf.ok, h, hok, hl]]
        exact implPrefixOk_len p h hok (by omega) w
end Go.Proofs.Ytdndanbalmoklaa
