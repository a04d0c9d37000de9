/-
  PrefixIn in the program and in the model.
-/
import Derived.Test.YtdndanbalmoklaaPfxHas
namespace Go.Proofs.Ytdndanbalmoklaa
set_option maxRecDepth 100000
open Go.RowKit

/-- The cells of two prefixes that were boxed. -/
theorem pp_box {w w' : World} {p q : Pf} {t : TypeId} (b : Below ((w.alloc (.cells #[.int .i64 p.base.k, .int .i64 p.base.a, .int .i64 p.base.b, .int .i64 p.base.c, .int .i64 p.base.d, .int .i64 p.len] t)).alloc (.cells #[.int .i64 q.base.k, .int .i64 q.base.a, .int .i64 q.base.b, .int .i64 q.base.c, .int .i64 q.base.d, .int .i64 q.len] t)).heap.size ((w.alloc (.cells #[.int .i64 p.base.k, .int .i64 p.base.a, .int .i64 p.base.b, .int .i64 p.base.c, .int .i64 p.base.d, .int .i64 p.len] t)).alloc (.cells #[.int .i64 q.base.k, .int .i64 q.base.a, .int .i64 q.base.b, .int .i64 q.base.c, .int .i64 q.base.d, .int .i64 q.len] t)) w') :
    (w'.cell? ⟨w.heap.size, 0, none⟩ = some (.int .i64 p.base.k) ∧ w'.cell? ⟨w.heap.size, 1, none⟩ = some (.int .i64 p.base.a) ∧ w'.cell? ⟨w.heap.size, 2, none⟩ = some (.int .i64 p.base.b) ∧ w'.cell? ⟨w.heap.size, 3, none⟩ = some (.int .i64 p.base.c) ∧ w'.cell? ⟨w.heap.size, 4, none⟩ = some (.int .i64 p.base.d) ∧ w'.cell? ⟨w.heap.size, 5, none⟩ = some (.int .i64 p.len)) ∧ (w'.cell? ⟨w.heap.size + 1, 0, none⟩ = some (.int .i64 q.base.k) ∧ w'.cell? ⟨w.heap.size + 1, 1, none⟩ = some (.int .i64 q.base.a) ∧ w'.cell? ⟨w.heap.size + 1, 2, none⟩ = some (.int .i64 q.base.b) ∧ w'.cell? ⟨w.heap.size + 1, 3, none⟩ = some (.int .i64 q.base.c) ∧ w'.cell? ⟨w.heap.size + 1, 4, none⟩ = some (.int .i64 q.base.d) ∧ w'.cell? ⟨w.heap.size + 1, 5, none⟩ = some (.int .i64 q.len)) :=
  ⟨⟨cell_on b (by simp [go_sem]), cell_on b (by simp [go_sem]), cell_on b (by simp [go_sem]), cell_on b (by simp [go_sem]), cell_on b (by simp [go_sem]), cell_on b (by simp [go_sem])⟩,
    ⟨cell_on b (by simp [go_sem]), cell_on b (by simp [go_sem]), cell_on b (by simp [go_sem]), cell_on b (by simp [go_sem]), cell_on b (by simp [go_sem]), cell_on b (by simp [go_sem])⟩⟩

theorem zero_has_not (q : Pf) : q.has Ad.zero = false := by simp [Pf.has, zero_not_ok]

set_option maxHeartbeats 400000 in
theorem specIn_bad (p q : Pf) (hp : p.ok = false) (w : World) : Calls Try.prog 149 #[.agg #[.int .i64 p.base.k, .int .i64 p.base.a, .int .i64 p.base.b, .int .i64 p.base.c, .int .i64 p.base.d, .int .i64 p.len], .agg #[.int .i64 q.base.k, .int .i64 q.base.a, .int .i64 q.base.b, .int .i64 q.base.c, .int .i64 q.base.d, .int .i64 q.len]] w fun e w' => e = .returned (.bool false) ∧ Below w.heap.size w w' := by
  have pk := specPrefixOk p
  rw [hp] at pk
  have PK := Lib.hid pk
  clear pk
  clear hp
  go_enter Try.func149, Try.ntmps149
  go_wp2_with fail
  refine (PK.out _).mono ?_
  rintro e w1 ⟨rfl, b1⟩
  go_wp2
  go_ret
  exact ⟨rfl, bthen (Joins.below_alloc2 w _ _) b1⟩

set_option maxHeartbeats 400000 in
theorem specIn_not (p q : Pf) (hp : p.ok = true) (hq : q.ok = false) (w : World) : Calls Try.prog 149 #[.agg #[.int .i64 p.base.k, .int .i64 p.base.a, .int .i64 p.base.b, .int .i64 p.base.c, .int .i64 p.base.d, .int .i64 p.len], .agg #[.int .i64 q.base.k, .int .i64 q.base.a, .int .i64 q.base.b, .int .i64 q.base.c, .int .i64 q.base.d, .int .i64 q.len]] w fun e w' => e = .returned (.bool false) ∧ Below w.heap.size w w' := by
  have pk := specPrefixOk p
  rw [hp] at pk
  have PK := Lib.hid pk
  clear pk
  have qk := specPrefixOk q
  rw [hq] at qk
  have QK := Lib.hid qk
  clear qk
  clear hp hq
  go_enter Try.func149, Try.ntmps149
  go_wp2_with fail
  refine (PK.out _).mono ?_
  rintro e w1 ⟨rfl, b1⟩
  obtain ⟨⟨c0, c1, c2, c3, c4, c5⟩, d0, d1, d2, d3, d4, d5⟩ := pp_box b1
  go_wp2_with fail
  refine (QK.out _).mono ?_
  rintro e w2 ⟨rfl, b2⟩
  have b12 := bthen b1 b2
  clear c0 c1 c2 c3 c4 c5 d0 d1 d2 d3 d4 d5
  go_wp2
  go_ret
  exact ⟨rfl, bthen (Joins.below_alloc2 w _ _) b12⟩

set_option maxHeartbeats 400000 in
theorem specIn_all (p q : Pf) (hp : p.ok = true) (hq : q.ok = true) (hz : q = Pf.zero) (w : World) : Calls Try.prog 149 #[.agg #[.int .i64 p.base.k, .int .i64 p.base.a, .int .i64 p.base.b, .int .i64 p.base.c, .int .i64 p.base.d, .int .i64 p.len], .agg #[.int .i64 q.base.k, .int .i64 q.base.a, .int .i64 q.base.b, .int .i64 q.base.c, .int .i64 q.base.d, .int .i64 q.len]] w fun e w' => e = .returned (.bool true) ∧ Below w.heap.size w w' := by
  have pk := specPrefixOk p
  rw [hp] at pk
  have PK := Lib.hid pk
  clear pk
  have qk := specPrefixOk q
  rw [hq] at qk
  have QK := Lib.hid qk
  clear qk
  have qz := specAny q
  rw [decide_eq_true hz] at qz
  have QZ := Lib.hid qz
  clear qz
  clear hp hq hz
  go_enter Try.func149, Try.ntmps149
  go_wp2_with fail
  refine (PK.out _).mono ?_
  rintro e w1 ⟨rfl, b1⟩
  obtain ⟨⟨c0, c1, c2, c3, c4, c5⟩, d0, d1, d2, d3, d4, d5⟩ := pp_box b1
  go_wp2_with fail
  refine (QK.out _).mono ?_
  rintro e w2 ⟨rfl, b2⟩
  have b12 := bthen b1 b2
  clear c0 c1 c2 c3 c4 c5 d0 d1 d2 d3 d4 d5
  obtain ⟨⟨c0, c1, c2, c3, c4, c5⟩, d0, d1, d2, d3, d4, d5⟩ := pp_box b12
  go_wp2_with fail
  refine (QZ.out _).mono ?_
  rintro e w3 ⟨rfl, b3⟩
  have b13 := bthen b12 b3
  clear c0 c1 c2 c3 c4 c5 d0 d1 d2 d3 d4 d5
  go_wp2
  go_ret
  exact ⟨rfl, bthen (Joins.below_alloc2 w _ _) b13⟩

set_option maxHeartbeats 400000 in
theorem specIn_none (p q : Pf) (hp : p.ok = true) (hq : q.ok = true) (hz : ¬ q = Pf.zero) (hy : p = Pf.zero) (w : World) : Calls Try.prog 149 #[.agg #[.int .i64 p.base.k, .int .i64 p.base.a, .int .i64 p.base.b, .int .i64 p.base.c, .int .i64 p.base.d, .int .i64 p.len], .agg #[.int .i64 q.base.k, .int .i64 q.base.a, .int .i64 q.base.b, .int .i64 q.base.c, .int .i64 q.base.d, .int .i64 q.len]] w fun e w' => e = .returned (.bool false) ∧ Below w.heap.size w w' := by
  have pk := specPrefixOk p
  rw [hp] at pk
  have PK := Lib.hid pk
  clear pk
  have qk := specPrefixOk q
  rw [hq] at qk
  have QK := Lib.hid qk
  clear qk
  have qz := specAny q
  rw [decide_eq_false hz] at qz
  have QZ := Lib.hid qz
  clear qz
  have pz := specAny p
  rw [decide_eq_true hy] at pz
  have PZ := Lib.hid pz
  clear pz
  clear hp hq hz hy
  go_enter Try.func149, Try.ntmps149
  go_wp2_with fail
  refine (PK.out _).mono ?_
  rintro e w1 ⟨rfl, b1⟩
  obtain ⟨⟨c0, c1, c2, c3, c4, c5⟩, d0, d1, d2, d3, d4, d5⟩ := pp_box b1
  go_wp2_with fail
  refine (QK.out _).mono ?_
  rintro e w2 ⟨rfl, b2⟩
  have b12 := bthen b1 b2
  clear c0 c1 c2 c3 c4 c5 d0 d1 d2 d3 d4 d5
  obtain ⟨⟨c0, c1, c2, c3, c4, c5⟩, d0, d1, d2, d3, d4, d5⟩ := pp_box b12
  go_wp2_with fail
  refine (QZ.out _).mono ?_
  rintro e w3 ⟨rfl, b3⟩
  have b13 := bthen b12 b3
  clear c0 c1 c2 c3 c4 c5 d0 d1 d2 d3 d4 d5
  obtain ⟨⟨c0, c1, c2, c3, c4, c5⟩, d0, d1, d2, d3, d4, d5⟩ := pp_box b13
  go_wp2_with fail
  refine (PZ.out _).mono ?_
  rintro e w4 ⟨rfl, b4⟩
  have b14 := bthen b13 b4
  clear c0 c1 c2 c3 c4 c5 d0 d1 d2 d3 d4 d5
  go_wp2
  go_ret
  exact ⟨rfl, bthen (Joins.below_alloc2 w _ _) b14⟩

set_option maxHeartbeats 400000 in
theorem specIn_kind (p q : Pf) (hp : p.ok = true) (hq : q.ok = true) (hz : ¬ q = Pf.zero) (hy : ¬ p = Pf.zero) (hk : ¬ p.base.k = q.base.k) (w : World) : Calls Try.prog 149 #[.agg #[.int .i64 p.base.k, .int .i64 p.base.a, .int .i64 p.base.b, .int .i64 p.base.c, .int .i64 p.base.d, .int .i64 p.len], .agg #[.int .i64 q.base.k, .int .i64 q.base.a, .int .i64 q.base.b, .int .i64 q.base.c, .int .i64 q.base.d, .int .i64 q.len]] w fun e w' => e = .returned (.bool false) ∧ Below w.heap.size w w' := by
  have pk := specPrefixOk p
  rw [hp] at pk
  have PK := Lib.hid pk
  clear pk
  have qk := specPrefixOk q
  rw [hq] at qk
  have QK := Lib.hid qk
  clear qk
  have qz := specAny q
  rw [decide_eq_false hz] at qz
  have QZ := Lib.hid qz
  clear qz
  have pz := specAny p
  rw [decide_eq_false hy] at pz
  have PZ := Lib.hid pz
  clear pz
  have HKK := Lib.hid hk
  clear hp hq hz hy hk
  go_enter Try.func149, Try.ntmps149
  go_wp2_with fail
  refine (PK.out _).mono ?_
  rintro e w1 ⟨rfl, b1⟩
  obtain ⟨⟨c0, c1, c2, c3, c4, c5⟩, d0, d1, d2, d3, d4, d5⟩ := pp_box b1
  go_wp2_with fail
  refine (QK.out _).mono ?_
  rintro e w2 ⟨rfl, b2⟩
  have b12 := bthen b1 b2
  clear c0 c1 c2 c3 c4 c5 d0 d1 d2 d3 d4 d5
  obtain ⟨⟨c0, c1, c2, c3, c4, c5⟩, d0, d1, d2, d3, d4, d5⟩ := pp_box b12
  go_wp2_with fail
  refine (QZ.out _).mono ?_
  rintro e w3 ⟨rfl, b3⟩
  have b13 := bthen b12 b3
  clear c0 c1 c2 c3 c4 c5 d0 d1 d2 d3 d4 d5
  obtain ⟨⟨c0, c1, c2, c3, c4, c5⟩, d0, d1, d2, d3, d4, d5⟩ := pp_box b13
  go_wp2_with fail
  refine (PZ.out _).mono ?_
  rintro e w4 ⟨rfl, b4⟩
  have b14 := bthen b13 b4
  clear c0 c1 c2 c3 c4 c5 d0 d1 d2 d3 d4 d5
  obtain ⟨⟨c0, c1, c2, c3, c4, c5⟩, d0, d1, d2, d3, d4, d5⟩ := pp_box b14
  have hk := HKK.out
  go_wp2
  go_ret
  exact ⟨rfl, bthen (Joins.below_alloc2 w _ _) b14⟩

set_option maxHeartbeats 400000 in
theorem specIn_len (p q : Pf) (hp : p.ok = true) (hq : q.ok = true) (hz : ¬ q = Pf.zero) (hy : ¬ p = Pf.zero) (hk : p.base.k = q.base.k) (hl : ¬ q.len ≤ p.len) (w : World) : Calls Try.prog 149 #[.agg #[.int .i64 p.base.k, .int .i64 p.base.a, .int .i64 p.base.b, .int .i64 p.base.c, .int .i64 p.base.d, .int .i64 p.len], .agg #[.int .i64 q.base.k, .int .i64 q.base.a, .int .i64 q.base.b, .int .i64 q.base.c, .int .i64 q.base.d, .int .i64 q.len]] w fun e w' => e = .returned (.bool false) ∧ Below w.heap.size w w' := by
  have pk := specPrefixOk p
  rw [hp] at pk
  have PK := Lib.hid pk
  clear pk
  have qk := specPrefixOk q
  rw [hq] at qk
  have QK := Lib.hid qk
  clear qk
  have qz := specAny q
  rw [decide_eq_false hz] at qz
  have QZ := Lib.hid qz
  clear qz
  have pz := specAny p
  rw [decide_eq_false hy] at pz
  have PZ := Lib.hid pz
  clear pz
  have HKK := Lib.hid hk
  have HLL := Lib.hid hl
  clear hp hq hz hy hk hl
  go_enter Try.func149, Try.ntmps149
  go_wp2_with fail
  refine (PK.out _).mono ?_
  rintro e w1 ⟨rfl, b1⟩
  obtain ⟨⟨c0, c1, c2, c3, c4, c5⟩, d0, d1, d2, d3, d4, d5⟩ := pp_box b1
  go_wp2_with fail
  refine (QK.out _).mono ?_
  rintro e w2 ⟨rfl, b2⟩
  have b12 := bthen b1 b2
  clear c0 c1 c2 c3 c4 c5 d0 d1 d2 d3 d4 d5
  obtain ⟨⟨c0, c1, c2, c3, c4, c5⟩, d0, d1, d2, d3, d4, d5⟩ := pp_box b12
  go_wp2_with fail
  refine (QZ.out _).mono ?_
  rintro e w3 ⟨rfl, b3⟩
  have b13 := bthen b12 b3
  clear c0 c1 c2 c3 c4 c5 d0 d1 d2 d3 d4 d5
  obtain ⟨⟨c0, c1, c2, c3, c4, c5⟩, d0, d1, d2, d3, d4, d5⟩ := pp_box b13
  go_wp2_with fail
  refine (PZ.out _).mono ?_
  rintro e w4 ⟨rfl, b4⟩
  have b14 := bthen b13 b4
  clear c0 c1 c2 c3 c4 c5 d0 d1 d2 d3 d4 d5
  obtain ⟨⟨c0, c1, c2, c3, c4, c5⟩, d0, d1, d2, d3, d4, d5⟩ := pp_box b14
  have hk : (p.base.k == q.base.k) = true := by simpa using HKK.out
  have hl := HLL.out
  go_wp2
  go_ret
  exact ⟨rfl, bthen (Joins.below_alloc2 w _ _) b14⟩

set_option maxHeartbeats 400000 in
theorem specIn_in (p q : Pf) (hp : p.ok = true) (hq : q.ok = true) (hz : ¬ q = Pf.zero) (hy : ¬ p = Pf.zero) (hk : p.base.k = q.base.k) (hl : q.len ≤ p.len) (w : World) : Calls Try.prog 149 #[.agg #[.int .i64 p.base.k, .int .i64 p.base.a, .int .i64 p.base.b, .int .i64 p.base.c, .int .i64 p.base.d, .int .i64 p.len], .agg #[.int .i64 q.base.k, .int .i64 q.base.a, .int .i64 q.base.b, .int .i64 q.base.c, .int .i64 q.base.d, .int .i64 q.len]] w fun e w' => e = .returned (.bool (q.has p.base)) ∧ Below w.heap.size w w' := by
  have pk := specPrefixOk p
  rw [hp] at pk
  have PK := Lib.hid pk
  clear pk
  have qk := specPrefixOk q
  rw [hq] at qk
  have QK := Lib.hid qk
  clear qk
  have qz := specAny q
  rw [decide_eq_false hz] at qz
  have QZ := Lib.hid qz
  clear qz
  have pz := specAny p
  rw [decide_eq_false hy] at pz
  have PZ := Lib.hid pz
  clear pz
  have HKK := Lib.hid hk
  have HLL := Lib.hid hl
  clear hp hq hz hy hk hl
  go_enter Try.func149, Try.ntmps149
  go_wp2_with fail
  refine (PK.out _).mono ?_
  rintro e w1 ⟨rfl, b1⟩
  obtain ⟨⟨c0, c1, c2, c3, c4, c5⟩, d0, d1, d2, d3, d4, d5⟩ := pp_box b1
  go_wp2_with fail
  refine (QK.out _).mono ?_
  rintro e w2 ⟨rfl, b2⟩
  have b12 := bthen b1 b2
  clear c0 c1 c2 c3 c4 c5 d0 d1 d2 d3 d4 d5
  obtain ⟨⟨c0, c1, c2, c3, c4, c5⟩, d0, d1, d2, d3, d4, d5⟩ := pp_box b12
  go_wp2_with fail
  refine (QZ.out _).mono ?_
  rintro e w3 ⟨rfl, b3⟩
  have b13 := bthen b12 b3
  clear c0 c1 c2 c3 c4 c5 d0 d1 d2 d3 d4 d5
  obtain ⟨⟨c0, c1, c2, c3, c4, c5⟩, d0, d1, d2, d3, d4, d5⟩ := pp_box b13
  go_wp2_with fail
  refine (PZ.out _).mono ?_
  rintro e w4 ⟨rfl, b4⟩
  have b14 := bthen b13 b4
  clear c0 c1 c2 c3 c4 c5 d0 d1 d2 d3 d4 d5
  obtain ⟨⟨c0, c1, c2, c3, c4, c5⟩, d0, d1, d2, d3, d4, d5⟩ := pp_box b14
  have hk : (p.base.k == q.base.k) = true := by simpa using HKK.out
  have hl : q.len ≤ p.len := HLL.out
  go_wp2_with fail
  refine (specPrefixHas q p.base _).mono ?_
  rintro e w5 ⟨rfl, b5⟩
  have b15 := bthen b14 b5
  clear hk hl
  clear c0 c1 c2 c3 c4 c5 d0 d1 d2 d3 d4 d5
  go_wp2
  go_ret
  exact ⟨rfl, bthen (Joins.below_alloc2 w _ _) b15⟩

theorem specPrefixIn (p q : Pf) (w : World) : Calls Try.prog 149 #[.agg #[.int .i64 p.base.k, .int .i64 p.base.a, .int .i64 p.base.b, .int .i64 p.base.c, .int .i64 p.base.d, .int .i64 p.len], .agg #[.int .i64 q.base.k, .int .i64 q.base.a, .int .i64 q.base.b, .int .i64 q.base.c, .int .i64 q.base.d, .int .i64 q.len]] w fun e w' => e = .returned (.bool (p.inn q)) ∧ Below w.heap.size w w' := by
  cases hp : p.ok
  · rw [show p.inn q = false by simp [Pf.inn, hp]]
    exact specIn_bad p q hp w
  · cases hq : q.ok
    · rw [show p.inn q = false by simp [Pf.inn, hq]]
      exact specIn_not p q hp hq w
    · by_cases hz : q = Pf.zero
      · rw [show p.inn q = true by unfold Pf.inn; rw [hp, hq, decide_eq_true hz]; rfl]
        exact specIn_all p q hp hq hz w
      · by_cases hy : p = Pf.zero
        · rw [show p.inn q = false by simp [Pf.inn, hz, hy]]
          exact specIn_none p q hp hq hz hy w
        · by_cases hk : p.base.k = q.base.k
          · by_cases hl : q.len ≤ p.len
            · rw [show p.inn q = q.has p.base by simp [Pf.inn, hp, hq, hz, hy, hk, hl]]
              exact specIn_in p q hp hq hz hy hk hl w
            · rw [show p.inn q = false by simp [Pf.inn, hz, hl]]
              exact specIn_len p q hp hq hz hy hk hl w
          · rw [show p.inn q = false by simp [Pf.inn, hz, hk]]
            exact specIn_kind p q hp hq hz hy hk w

set_option maxHeartbeats 400000 in
theorem implIn_bad (p q : Pf) (hp : p.ok = false) (w : World) : Calls Try.prog 147 #[.agg #[.int .i64 p.base.k, .int .i64 p.base.a, .int .i64 p.base.b, .int .i64 p.base.c, .int .i64 p.base.d, .int .i64 p.len], .agg #[.int .i64 q.base.k, .int .i64 q.base.a, .int .i64 q.base.b, .int .i64 q.base.c, .int .i64 q.base.d, .int .i64 q.len]] w fun e w' => e = .returned (.bool false) ∧ Below w.heap.size w w' := by
  have pk := implPrefixOk p
  rw [hp] at pk
  have PK := Lib.hid pk
  clear pk
  clear hp
  go_enter Try.func147, Try.ntmps147
  go_wp2_with fail
  refine (PK.out _).mono ?_
  rintro e w1 ⟨rfl, b1⟩
  go_wp2
  go_ret
  exact ⟨rfl, bthen (Joins.below_alloc2 w _ _) b1⟩

set_option maxHeartbeats 400000 in
theorem implIn_not (p q : Pf) (hp : p.ok = true) (hq : q.ok = false) (w : World) : Calls Try.prog 147 #[.agg #[.int .i64 p.base.k, .int .i64 p.base.a, .int .i64 p.base.b, .int .i64 p.base.c, .int .i64 p.base.d, .int .i64 p.len], .agg #[.int .i64 q.base.k, .int .i64 q.base.a, .int .i64 q.base.b, .int .i64 q.base.c, .int .i64 q.base.d, .int .i64 q.len]] w fun e w' => e = .returned (.bool false) ∧ Below w.heap.size w w' := by
  have pk := implPrefixOk p
  rw [hp] at pk
  have PK := Lib.hid pk
  clear pk
  have qk := implPrefixOk q
  rw [hq] at qk
  have QK := Lib.hid qk
  clear qk
  clear hp hq
  go_enter Try.func147, Try.ntmps147
  go_wp2_with fail
  refine (PK.out _).mono ?_
  rintro e w1 ⟨rfl, b1⟩
  obtain ⟨⟨c0, c1, c2, c3, c4, c5⟩, d0, d1, d2, d3, d4, d5⟩ := pp_box b1
  go_wp2_with fail
  refine (QK.out _).mono ?_
  rintro e w2 ⟨rfl, b2⟩
  have b12 := bthen b1 b2
  clear c0 c1 c2 c3 c4 c5 d0 d1 d2 d3 d4 d5
  go_wp2
  go_ret
  exact ⟨rfl, bthen (Joins.below_alloc2 w _ _) b12⟩

set_option maxHeartbeats 400000 in
theorem implIn_all (p q : Pf) (hp : p.ok = true) (hq : q.ok = true) (hz : q = Pf.zero) (w : World) : Calls Try.prog 147 #[.agg #[.int .i64 p.base.k, .int .i64 p.base.a, .int .i64 p.base.b, .int .i64 p.base.c, .int .i64 p.base.d, .int .i64 p.len], .agg #[.int .i64 q.base.k, .int .i64 q.base.a, .int .i64 q.base.b, .int .i64 q.base.c, .int .i64 q.base.d, .int .i64 q.len]] w fun e w' => e = .returned (.bool true) ∧ Below w.heap.size w w' := by
  have pk := implPrefixOk p
  rw [hp] at pk
  have PK := Lib.hid pk
  clear pk
  have qk := implPrefixOk q
  rw [hq] at qk
  have QK := Lib.hid qk
  clear qk
  have heq := eq_pf q
  rw [decide_eq_true hz] at heq
  clear hp hq hz
  go_enter Try.func147, Try.ntmps147
  go_wp2_with fail
  refine (PK.out _).mono ?_
  rintro e w1 ⟨rfl, b1⟩
  obtain ⟨⟨c0, c1, c2, c3, c4, c5⟩, d0, d1, d2, d3, d4, d5⟩ := pp_box b1
  go_wp2_with fail
  refine (QK.out _).mono ?_
  rintro e w2 ⟨rfl, b2⟩
  have b12 := bthen b1 b2
  clear c0 c1 c2 c3 c4 c5 d0 d1 d2 d3 d4 d5
  obtain ⟨⟨c0, c1, c2, c3, c4, c5⟩, d0, d1, d2, d3, d4, d5⟩ := pp_box b12
  go_wp2
  go_ret
  exact ⟨rfl, bthen (Joins.below_alloc2 w _ _) b12⟩

set_option maxHeartbeats 400000 in
theorem implIn_len (p q : Pf) (hp : p.ok = true) (hq : q.ok = true) (hz : ¬ q = Pf.zero) (hl : ¬ q.len ≤ p.len) (w : World) : Calls Try.prog 147 #[.agg #[.int .i64 p.base.k, .int .i64 p.base.a, .int .i64 p.base.b, .int .i64 p.base.c, .int .i64 p.base.d, .int .i64 p.len], .agg #[.int .i64 q.base.k, .int .i64 q.base.a, .int .i64 q.base.b, .int .i64 q.base.c, .int .i64 q.base.d, .int .i64 q.len]] w fun e w' => e = .returned (.bool false) ∧ Below w.heap.size w w' := by
  have pk := implPrefixOk p
  rw [hp] at pk
  have PK := Lib.hid pk
  clear pk
  have qk := implPrefixOk q
  rw [hq] at qk
  have QK := Lib.hid qk
  clear qk
  have heq := eq_pf q
  rw [decide_eq_false hz] at heq
  have HLL := Lib.hid hl
  clear hp hq hz hl
  go_enter Try.func147, Try.ntmps147
  go_wp2_with fail
  refine (PK.out _).mono ?_
  rintro e w1 ⟨rfl, b1⟩
  obtain ⟨⟨c0, c1, c2, c3, c4, c5⟩, d0, d1, d2, d3, d4, d5⟩ := pp_box b1
  go_wp2_with fail
  refine (QK.out _).mono ?_
  rintro e w2 ⟨rfl, b2⟩
  have b12 := bthen b1 b2
  clear c0 c1 c2 c3 c4 c5 d0 d1 d2 d3 d4 d5
  obtain ⟨⟨c0, c1, c2, c3, c4, c5⟩, d0, d1, d2, d3, d4, d5⟩ := pp_box b12
  have hl := HLL.out
  go_wp2
  go_ret
  exact ⟨rfl, bthen (Joins.below_alloc2 w _ _) b12⟩

set_option maxHeartbeats 400000 in
theorem implIn_in (p q : Pf) (hp : p.ok = true) (hq : q.ok = true) (hz : ¬ q = Pf.zero) (hl : q.len ≤ p.len) (w : World) : Calls Try.prog 147 #[.agg #[.int .i64 p.base.k, .int .i64 p.base.a, .int .i64 p.base.b, .int .i64 p.base.c, .int .i64 p.base.d, .int .i64 p.len], .agg #[.int .i64 q.base.k, .int .i64 q.base.a, .int .i64 q.base.b, .int .i64 q.base.c, .int .i64 q.base.d, .int .i64 q.len]] w fun e w' => e = .returned (.bool (q.has p.base)) ∧ Below w.heap.size w w' := by
  have pk := implPrefixOk p
  rw [hp] at pk
  have PK := Lib.hid pk
  clear pk
  have qk := implPrefixOk q
  rw [hq] at qk
  have QK := Lib.hid qk
  clear qk
  have heq := eq_pf q
  rw [decide_eq_false hz] at heq
  have HLL := Lib.hid hl
  clear hp hq hz hl
  go_enter Try.func147, Try.ntmps147
  go_wp2_with fail
  refine (PK.out _).mono ?_
  rintro e w1 ⟨rfl, b1⟩
  obtain ⟨⟨c0, c1, c2, c3, c4, c5⟩, d0, d1, d2, d3, d4, d5⟩ := pp_box b1
  go_wp2_with fail
  refine (QK.out _).mono ?_
  rintro e w2 ⟨rfl, b2⟩
  have b12 := bthen b1 b2
  clear c0 c1 c2 c3 c4 c5 d0 d1 d2 d3 d4 d5
  obtain ⟨⟨c0, c1, c2, c3, c4, c5⟩, d0, d1, d2, d3, d4, d5⟩ := pp_box b12
  have hl : q.len ≤ p.len := HLL.out
  go_wp2_with fail
  refine (implPrefixHas q p.base _).mono ?_
  rintro e w5 ⟨rfl, b5⟩
  have b15 := bthen b12 b5
  clear hl
  clear c0 c1 c2 c3 c4 c5 d0 d1 d2 d3 d4 d5
  go_wp2
  go_ret
  exact ⟨rfl, bthen (Joins.below_alloc2 w _ _) b15⟩

theorem implPrefixIn (p q : Pf) (w : World) : Calls Try.prog 147 #[.agg #[.int .i64 p.base.k, .int .i64 p.base.a, .int .i64 p.base.b, .int .i64 p.base.c, .int .i64 p.base.d, .int .i64 p.len], .agg #[.int .i64 q.base.k, .int .i64 q.base.a, .int .i64 q.base.b, .int .i64 q.base.c, .int .i64 q.base.d, .int .i64 q.len]] w fun e w' => e = .returned (.bool (p.inn q)) ∧ Below w.heap.size w w' := by
  cases hp : p.ok
  · rw [show p.inn q = false by simp [Pf.inn, hp]]
    exact implIn_bad p q hp w
  · cases hq : q.ok
    · rw [show p.inn q = false by simp [Pf.inn, hq]]
      exact implIn_not p q hp hq w
    · by_cases hz : q = Pf.zero
      · rw [show p.inn q = true by unfold Pf.inn; rw [hp, hq, decide_eq_true hz]; rfl]
        exact implIn_all p q hp hq hz w
      · by_cases hl : q.len ≤ p.len
        · have e : p.inn q = q.has p.base := by
            by_cases hy : p = Pf.zero
            · rw [show p.inn q = false by simp [Pf.inn, hz, hy], hy]
              exact (zero_has_not q).symm
            · by_cases hk : p.base.k = q.base.k
              · simp [Pf.inn, hp, hq, hz, hy, hk, hl]
              · rw [show p.inn q = false by simp [Pf.inn, hz, hk]]
                have : ¬ q.base.k = p.base.k := fun e => hk e.symm
                simp [Pf.has, hz, this]
          rw [e]
          exact implIn_in p q hp hq hz hl w
        · rw [show p.inn q = false by simp [Pf.inn, hz, hl]]
          exact implIn_len p q hp hq hz hl w

end Go.Proofs.Ytdndanbalmoklaa
