/-
  PrefixHas in the program and in the model.
-/
import Derived.Test.YtdndanbalmoklaaPfxSpec
namespace Go.Proofs.Ytdndanbalmoklaa
set_option maxRecDepth 100000
open Go.RowKit

/-- The cells of a prefix and of an address that were boxed. -/
theorem pfad_box {w w' : World} {p : Pf} {x : Ad} {t u : TypeId} (b : Below ((w.alloc (.cells #[.int .i64 p.base.k, .int .i64 p.base.a, .int .i64 p.base.b, .int .i64 p.base.c, .int .i64 p.base.d, .int .i64 p.len] t)).alloc (.cells #[.int .i64 x.k, .int .i64 x.a, .int .i64 x.b, .int .i64 x.c, .int .i64 x.d] u)).heap.size ((w.alloc (.cells #[.int .i64 p.base.k, .int .i64 p.base.a, .int .i64 p.base.b, .int .i64 p.base.c, .int .i64 p.base.d, .int .i64 p.len] t)).alloc (.cells #[.int .i64 x.k, .int .i64 x.a, .int .i64 x.b, .int .i64 x.c, .int .i64 x.d] u)) w') :
    (w'.cell? ⟨w.heap.size, 0, none⟩ = some (.int .i64 p.base.k) ∧ w'.cell? ⟨w.heap.size, 1, none⟩ = some (.int .i64 p.base.a) ∧ w'.cell? ⟨w.heap.size, 2, none⟩ = some (.int .i64 p.base.b) ∧ w'.cell? ⟨w.heap.size, 3, none⟩ = some (.int .i64 p.base.c) ∧ w'.cell? ⟨w.heap.size, 4, none⟩ = some (.int .i64 p.base.d) ∧
      w'.cell? ⟨w.heap.size, 5, none⟩ = some (.int .i64 p.len)) ∧
    (w'.cell? ⟨w.heap.size + 1, 0, none⟩ = some (.int .i64 x.k) ∧ w'.cell? ⟨w.heap.size + 1, 1, none⟩ = some (.int .i64 x.a) ∧ w'.cell? ⟨w.heap.size + 1, 2, none⟩ = some (.int .i64 x.b) ∧ w'.cell? ⟨w.heap.size + 1, 3, none⟩ = some (.int .i64 x.c) ∧ w'.cell? ⟨w.heap.size + 1, 4, none⟩ = some (.int .i64 x.d)) :=
  ⟨⟨cell_on b (by simp [go_sem]), cell_on b (by simp [go_sem]), cell_on b (by simp [go_sem]), cell_on b (by simp [go_sem]), cell_on b (by simp [go_sem]), cell_on b (by simp [go_sem])⟩,
    ⟨cell_on b (by simp [go_sem]), cell_on b (by simp [go_sem]), cell_on b (by simp [go_sem]), cell_on b (by simp [go_sem]), cell_on b (by simp [go_sem])⟩⟩

theorem has_bits {p : Pf} {x : Ad} (hp : p.ok = true) (hz : ¬ p = Pf.zero) (hk : p.base.k = x.k) : p.base.ok = true ∧ 0 ≤ p.len ∧ p.len ≤ x.bits := by
  simp only [Pf.ok, hz, decide_false, Bool.false_or, Bool.and_eq_true, decide_eq_true_eq] at hp
  refine ⟨hp.1.1, hp.1.2.1, ?_⟩
  have := hp.1.2.2
  simp only [Ad.bits, ← hk]
  exact this

set_option maxHeartbeats 400000 in
theorem specHas_bad (p : Pf) (x : Ad) (hp : p.ok = false) (w : World) : Calls Try.prog 80 #[.agg #[.int .i64 p.base.k, .int .i64 p.base.a, .int .i64 p.base.b, .int .i64 p.base.c, .int .i64 p.base.d, .int .i64 p.len], .agg #[.int .i64 x.k, .int .i64 x.a, .int .i64 x.b, .int .i64 x.c, .int .i64 x.d]] w fun e w' => e = .returned (.bool false) ∧ Below w.heap.size w w' := by
  have pk := specPrefixOk p
  rw [hp] at pk
  have PK := Lib.hid pk
  clear pk
  go_enter Try.func80, Try.ntmps80
  go_wp2_with fail
  refine (PK.out _).mono ?_
  rintro e w1 ⟨rfl, b1⟩
  go_wp2
  go_ret
  exact ⟨rfl, bthen (Joins.below_alloc2 w _ _) b1⟩

set_option maxHeartbeats 400000 in
theorem specHas_not (p : Pf) (x : Ad) (hp : p.ok = true) (hx : x.ok = false) (w : World) : Calls Try.prog 80 #[.agg #[.int .i64 p.base.k, .int .i64 p.base.a, .int .i64 p.base.b, .int .i64 p.base.c, .int .i64 p.base.d, .int .i64 p.len], .agg #[.int .i64 x.k, .int .i64 x.a, .int .i64 x.b, .int .i64 x.c, .int .i64 x.d]] w fun e w' => e = .returned (.bool false) ∧ Below w.heap.size w w' := by
  have pk := specPrefixOk p
  rw [hp] at pk
  have PK := Lib.hid pk
  clear pk
  have ak := specAddrOk x
  rw [hx] at ak
  have AK := Lib.hid ak
  clear ak
  clear hp hx
  go_enter Try.func80, Try.ntmps80
  go_wp2_with fail
  refine (PK.out _).mono ?_
  rintro e w1 ⟨rfl, b1⟩
  obtain ⟨⟨c0, c1, c2, c3, c4, c5⟩, d0, d1, d2, d3, d4⟩ := pfad_box b1
  go_wp2_with fail
  refine (AK.out _).mono ?_
  rintro e w2 ⟨rfl, b2⟩
  have b12 := bthen b1 b2
  have B2 := bthen (Joins.below_alloc2 w _ _) b12
  clear c0 c1 c2 c3 c4 c5 d0 d1 d2 d3 d4
  go_wp2
  go_ret
  exact ⟨rfl, B2⟩

set_option maxHeartbeats 400000 in
theorem specHas_all (p : Pf) (x : Ad) (hp : p.ok = true) (hx : x.ok = true) (hz : p = Pf.zero) (w : World) : Calls Try.prog 80 #[.agg #[.int .i64 p.base.k, .int .i64 p.base.a, .int .i64 p.base.b, .int .i64 p.base.c, .int .i64 p.base.d, .int .i64 p.len], .agg #[.int .i64 x.k, .int .i64 x.a, .int .i64 x.b, .int .i64 x.c, .int .i64 x.d]] w fun e w' => e = .returned (.bool true) ∧ Below w.heap.size w w' := by
  have pk := specPrefixOk p
  rw [hp] at pk
  have PK := Lib.hid pk
  clear pk
  have ak := specAddrOk x
  rw [hx] at ak
  have AK := Lib.hid ak
  clear ak
  have an := specAny p
  rw [decide_eq_true hz] at an
  have AN := Lib.hid an
  clear an
  clear hp hx hz
  go_enter Try.func80, Try.ntmps80
  go_wp2_with fail
  refine (PK.out _).mono ?_
  rintro e w1 ⟨rfl, b1⟩
  obtain ⟨⟨c0, c1, c2, c3, c4, c5⟩, d0, d1, d2, d3, d4⟩ := pfad_box b1
  go_wp2_with fail
  refine (AK.out _).mono ?_
  rintro e w2 ⟨rfl, b2⟩
  have b12 := bthen b1 b2
  have B2 := bthen (Joins.below_alloc2 w _ _) b12
  clear c0 c1 c2 c3 c4 c5 d0 d1 d2 d3 d4
  obtain ⟨⟨c0, c1, c2, c3, c4, c5⟩, d0, d1, d2, d3, d4⟩ := pfad_box b12
  have k0 := cell_regrown c0
  have k1 := cell_regrown c1
  have k2 := cell_regrown c2
  have k3 := cell_regrown c3
  have k4 := cell_regrown c4
  have k5 := cell_regrown c5
  have l0 := cell_regrown d0
  have l1 := cell_regrown d1
  have l2 := cell_regrown d2
  have l3 := cell_regrown d3
  have l4 := cell_regrown d4
  go_wp2_with fail
  refine wp_region_quiet_below (by kernel_rfl) (by kernel_rfl) ?_
  repeat (go_big_quiet_step (((go_at_call 67; exact Calls.regrown_of (AN.out _)))))
  refine wpQuiet_nil ?_
  intro w3 hw3
  obtain ⟨⟨dq, osq⟩, hw3⟩ := hw3
  have B := below_regrown w2 dq osq
  rw [← hw3] at B
  clear hw3 k0 k1 k2 k3 k4 k5 l0 l1 l2 l3 l4 c0 c1 c2 c3 c4 c5 d0 d1 d2 d3 d4
  go_wp2
  go_ret
  exact ⟨rfl, bthen B2 B⟩


set_option maxHeartbeats 400000 in
theorem specHas_kind (p : Pf) (x : Ad) (hp : p.ok = true) (hx : x.ok = true) (hz : ¬ p = Pf.zero) (hk : ¬ p.base.k = x.k) (w : World) : Calls Try.prog 80 #[.agg #[.int .i64 p.base.k, .int .i64 p.base.a, .int .i64 p.base.b, .int .i64 p.base.c, .int .i64 p.base.d, .int .i64 p.len], .agg #[.int .i64 x.k, .int .i64 x.a, .int .i64 x.b, .int .i64 x.c, .int .i64 x.d]] w fun e w' => e = .returned (.bool false) ∧ Below w.heap.size w w' := by
  have pk := specPrefixOk p
  rw [hp] at pk
  have PK := Lib.hid pk
  clear pk
  have ak := specAddrOk x
  rw [hx] at ak
  have AK := Lib.hid ak
  clear ak
  have an := specAny p
  rw [decide_eq_false hz] at an
  have AN := Lib.hid an
  clear an
  have hd : (p.base.k == x.k) = false := by simpa using hk
  clear hp hx hz hk
  go_enter Try.func80, Try.ntmps80
  go_wp2_with fail
  refine (PK.out _).mono ?_
  rintro e w1 ⟨rfl, b1⟩
  obtain ⟨⟨c0, c1, c2, c3, c4, c5⟩, d0, d1, d2, d3, d4⟩ := pfad_box b1
  go_wp2_with fail
  refine (AK.out _).mono ?_
  rintro e w2 ⟨rfl, b2⟩
  have b12 := bthen b1 b2
  have B2 := bthen (Joins.below_alloc2 w _ _) b12
  clear c0 c1 c2 c3 c4 c5 d0 d1 d2 d3 d4
  obtain ⟨⟨c0, c1, c2, c3, c4, c5⟩, d0, d1, d2, d3, d4⟩ := pfad_box b12
  have k0 := cell_regrown c0
  have k1 := cell_regrown c1
  have k2 := cell_regrown c2
  have k3 := cell_regrown c3
  have k4 := cell_regrown c4
  have k5 := cell_regrown c5
  have l0 := cell_regrown d0
  have l1 := cell_regrown d1
  have l2 := cell_regrown d2
  have l3 := cell_regrown d3
  have l4 := cell_regrown d4
  go_wp2_with fail
  refine wp_region_quiet_below (by kernel_rfl) (by kernel_rfl) ?_
  repeat (go_big_quiet_step (((go_at_call 67; exact Calls.regrown_of (AN.out _)))))
  refine wpQuiet_nil ?_
  intro w3 hw3
  obtain ⟨⟨dq, osq⟩, hw3⟩ := hw3
  have B := below_regrown w2 dq osq
  rw [← hw3] at B
  clear hw3 k0 k1 k2 k3 k4 k5 l0 l1 l2 l3 l4 c0 c1 c2 c3 c4 c5 d0 d1 d2 d3 d4
  go_wp2
  go_ret
  exact ⟨rfl, bthen B2 B⟩


set_option maxHeartbeats 400000 in
theorem specHas_in (p : Pf) (x : Ad) (hp : p.ok = true) (hx : x.ok = true) (hz : ¬ p = Pf.zero) (hk : p.base.k = x.k) (w : World) : Calls Try.prog 80 #[.agg #[.int .i64 p.base.k, .int .i64 p.base.a, .int .i64 p.base.b, .int .i64 p.base.c, .int .i64 p.base.d, .int .i64 p.len], .agg #[.int .i64 x.k, .int .i64 x.a, .int .i64 x.b, .int .i64 x.c, .int .i64 x.d]] w fun e w' => e = .returned (.bool (decide (x.cut p.len = p.base))) ∧ Below w.heap.size w w' := by
  have pk := specPrefixOk p
  rw [hp] at pk
  have PK := Lib.hid pk
  clear pk
  have ak := specAddrOk x
  rw [hx] at ak
  have AK := Lib.hid ak
  clear ak
  have an := specAny p
  rw [decide_eq_false hz] at an
  have AN := Lib.hid an
  clear an
  have hd : (p.base.k == x.k) = true := by simpa using hk
  have ct := specCut x p.len
  have he := eq_ad (x.cut p.len) p.base
  obtain ⟨y, hy⟩ : ∃ y, y = x.cut p.len := ⟨_, rfl⟩
  rw [← hy] at ct he
  rw [← hy]
  have CT := Lib.hid ct
  clear ct hy hp hx hz hk
  go_enter Try.func80, Try.ntmps80
  go_wp2_with fail
  refine (PK.out _).mono ?_
  rintro e w1 ⟨rfl, b1⟩
  obtain ⟨⟨c0, c1, c2, c3, c4, c5⟩, d0, d1, d2, d3, d4⟩ := pfad_box b1
  go_wp2_with fail
  refine (AK.out _).mono ?_
  rintro e w2 ⟨rfl, b2⟩
  have b12 := bthen b1 b2
  have B2 := bthen (Joins.below_alloc2 w _ _) b12
  clear c0 c1 c2 c3 c4 c5 d0 d1 d2 d3 d4
  obtain ⟨⟨c0, c1, c2, c3, c4, c5⟩, d0, d1, d2, d3, d4⟩ := pfad_box b12
  have k0 := cell_regrown c0
  have k1 := cell_regrown c1
  have k2 := cell_regrown c2
  have k3 := cell_regrown c3
  have k4 := cell_regrown c4
  have k5 := cell_regrown c5
  have l0 := cell_regrown d0
  have l1 := cell_regrown d1
  have l2 := cell_regrown d2
  have l3 := cell_regrown d3
  have l4 := cell_regrown d4
  go_wp2_with fail
  refine wp_region_quiet_below (by kernel_rfl) (by kernel_rfl) ?_
  repeat (go_big_quiet_step (first | (go_at_call 67; exact Calls.regrown_of (AN.out _)) | (go_at_call 82; exact Calls.regrown_of (CT.out _))))
  refine wpQuiet_nil ?_
  intro w3 hw3
  obtain ⟨⟨dq, osq⟩, hw3⟩ := hw3
  have B := below_regrown w2 dq osq
  rw [← hw3] at B
  clear hw3 k0 k1 k2 k3 k4 k5 l0 l1 l2 l3 l4 c0 c1 c2 c3 c4 c5 d0 d1 d2 d3 d4
  go_wp2
  go_ret
  exact ⟨rfl, bthen B2 B⟩


theorem specPrefixHas (p : Pf) (x : Ad) (w : World) : Calls Try.prog 80 #[.agg #[.int .i64 p.base.k, .int .i64 p.base.a, .int .i64 p.base.b, .int .i64 p.base.c, .int .i64 p.base.d, .int .i64 p.len], .agg #[.int .i64 x.k, .int .i64 x.a, .int .i64 x.b, .int .i64 x.c, .int .i64 x.d]] w fun e w' => e = .returned (.bool (p.has x)) ∧ Below w.heap.size w w' := by
  cases hp : p.ok
  · rw [show p.has x = false by simp [Pf.has, hp]]
    exact specHas_bad p x hp w
  · cases hx : x.ok
    · rw [show p.has x = false by simp [Pf.has, hx]]
      exact specHas_not p x hp hx w
    · by_cases hz : p = Pf.zero
      · rw [show p.has x = true by simp [Pf.has, hx, hz]; rw [← hz]; exact hp]
        exact specHas_all p x hp hx hz w
      · by_cases hk : p.base.k = x.k
        · rw [show p.has x = decide (x.cut p.len = p.base) by simp [Pf.has, hp, hx, hz, hk]]
          exact specHas_in p x hp hx hz hk w
        · rw [show p.has x = false by simp [Pf.has, hz, hk]]
          exact specHas_kind p x hp hx hz hk w

set_option maxHeartbeats 400000 in
theorem implHas_bad (p : Pf) (x : Ad) (hp : p.ok = false) (w : World) : Calls Try.prog 84 #[.agg #[.int .i64 p.base.k, .int .i64 p.base.a, .int .i64 p.base.b, .int .i64 p.base.c, .int .i64 p.base.d, .int .i64 p.len], .agg #[.int .i64 x.k, .int .i64 x.a, .int .i64 x.b, .int .i64 x.c, .int .i64 x.d]] w fun e w' => e = .returned (.bool false) ∧ Below w.heap.size w w' := by
  have pk := implPrefixOk p
  rw [hp] at pk
  have PK := Lib.hid pk
  clear pk
  go_enter Try.func84, Try.ntmps84
  go_wp2_with fail
  refine (PK.out _).mono ?_
  rintro e w1 ⟨rfl, b1⟩
  go_wp2
  go_ret
  exact ⟨rfl, bthen (Joins.below_alloc2 w _ _) b1⟩

set_option maxHeartbeats 400000 in
theorem implHas_not (p : Pf) (x : Ad) (hp : p.ok = true) (hx : x.ok = false) (w : World) : Calls Try.prog 84 #[.agg #[.int .i64 p.base.k, .int .i64 p.base.a, .int .i64 p.base.b, .int .i64 p.base.c, .int .i64 p.base.d, .int .i64 p.len], .agg #[.int .i64 x.k, .int .i64 x.a, .int .i64 x.b, .int .i64 x.c, .int .i64 x.d]] w fun e w' => e = .returned (.bool false) ∧ Below w.heap.size w w' := by
  have pk := implPrefixOk p
  rw [hp] at pk
  have PK := Lib.hid pk
  clear pk
  have ak := implAddrOk x
  rw [hx] at ak
  have AK := Lib.hid ak
  clear ak
  clear hp hx
  go_enter Try.func84, Try.ntmps84
  go_wp2_with fail
  refine (PK.out _).mono ?_
  rintro e w1 ⟨rfl, b1⟩
  obtain ⟨⟨c0, c1, c2, c3, c4, c5⟩, d0, d1, d2, d3, d4⟩ := pfad_box b1
  go_wp2_with fail
  refine (AK.out _).mono ?_
  rintro e w2 ⟨rfl, b2⟩
  have b12 := bthen b1 b2
  have B2 := bthen (Joins.below_alloc2 w _ _) b12
  clear c0 c1 c2 c3 c4 c5 d0 d1 d2 d3 d4
  go_wp2
  go_ret
  exact ⟨rfl, B2⟩

set_option maxHeartbeats 400000 in
theorem implHas_all (p : Pf) (x : Ad) (hp : p.ok = true) (hx : x.ok = true) (hz : p = Pf.zero) (w : World) : Calls Try.prog 84 #[.agg #[.int .i64 p.base.k, .int .i64 p.base.a, .int .i64 p.base.b, .int .i64 p.base.c, .int .i64 p.base.d, .int .i64 p.len], .agg #[.int .i64 x.k, .int .i64 x.a, .int .i64 x.b, .int .i64 x.c, .int .i64 x.d]] w fun e w' => e = .returned (.bool true) ∧ Below w.heap.size w w' := by
  have pk := implPrefixOk p
  rw [hp] at pk
  have PK := Lib.hid pk
  clear pk
  have ak := implAddrOk x
  rw [hx] at ak
  have AK := Lib.hid ak
  clear ak
  have hq := eq_pf p
  rw [decide_eq_true hz] at hq
  clear hp hx hz
  go_enter Try.func84, Try.ntmps84
  go_wp2_with fail
  refine (PK.out _).mono ?_
  rintro e w1 ⟨rfl, b1⟩
  obtain ⟨⟨c0, c1, c2, c3, c4, c5⟩, d0, d1, d2, d3, d4⟩ := pfad_box b1
  go_wp2_with fail
  refine (AK.out _).mono ?_
  rintro e w2 ⟨rfl, b2⟩
  have b12 := bthen b1 b2
  have B2 := bthen (Joins.below_alloc2 w _ _) b12
  clear c0 c1 c2 c3 c4 c5 d0 d1 d2 d3 d4
  obtain ⟨⟨c0, c1, c2, c3, c4, c5⟩, d0, d1, d2, d3, d4⟩ := pfad_box b12
  go_wp2
  go_ret
  exact ⟨rfl, B2⟩

set_option maxHeartbeats 400000 in
theorem implHas_kind (p : Pf) (x : Ad) (hp : p.ok = true) (hx : x.ok = true) (hz : ¬ p = Pf.zero) (hk : ¬ p.base.k = x.k) (w : World) : Calls Try.prog 84 #[.agg #[.int .i64 p.base.k, .int .i64 p.base.a, .int .i64 p.base.b, .int .i64 p.base.c, .int .i64 p.base.d, .int .i64 p.len], .agg #[.int .i64 x.k, .int .i64 x.a, .int .i64 x.b, .int .i64 x.c, .int .i64 x.d]] w fun e w' => e = .returned (.bool false) ∧ Below w.heap.size w w' := by
  have pk := implPrefixOk p
  rw [hp] at pk
  have PK := Lib.hid pk
  clear pk
  have ak := implAddrOk x
  rw [hx] at ak
  have AK := Lib.hid ak
  clear ak
  have hq := eq_pf p
  rw [decide_eq_false hz] at hq
  have hd : (x.k == p.base.k) = false := by simpa using fun e => hk e.symm
  clear hp hx hz hk
  go_enter Try.func84, Try.ntmps84
  go_wp2_with fail
  refine (PK.out _).mono ?_
  rintro e w1 ⟨rfl, b1⟩
  obtain ⟨⟨c0, c1, c2, c3, c4, c5⟩, d0, d1, d2, d3, d4⟩ := pfad_box b1
  go_wp2_with fail
  refine (AK.out _).mono ?_
  rintro e w2 ⟨rfl, b2⟩
  have b12 := bthen b1 b2
  have B2 := bthen (Joins.below_alloc2 w _ _) b12
  clear c0 c1 c2 c3 c4 c5 d0 d1 d2 d3 d4
  obtain ⟨⟨c0, c1, c2, c3, c4, c5⟩, d0, d1, d2, d3, d4⟩ := pfad_box b12
  have k0 := cell_regrown c0
  have k1 := cell_regrown c1
  have k2 := cell_regrown c2
  have k3 := cell_regrown c3
  have k4 := cell_regrown c4
  have k5 := cell_regrown c5
  have l0 := cell_regrown d0
  have l1 := cell_regrown d1
  have l2 := cell_regrown d2
  have l3 := cell_regrown d3
  have l4 := cell_regrown d4
  go_wp2_with fail
  refine wp_region_quiet_below (by kernel_rfl) (by kernel_rfl) ?_
  repeat (go_big_quiet_step (fail))
  refine wpQuiet_nil ?_
  intro w3 hw3
  obtain ⟨⟨dq, osq⟩, hw3⟩ := hw3
  have B := below_regrown w2 dq osq
  rw [← hw3] at B
  clear hw3 k0 k1 k2 k3 k4 k5 l0 l1 l2 l3 l4 c0 c1 c2 c3 c4 c5 d0 d1 d2 d3 d4
  go_wp2
  go_ret
  exact ⟨rfl, bthen B2 B⟩


set_option maxHeartbeats 400000 in
theorem implHas_in (p : Pf) (x : Ad) (hp : p.ok = true) (hx : x.ok = true) (hz : ¬ p = Pf.zero) (hk : p.base.k = x.k) (w : World) : Calls Try.prog 84 #[.agg #[.int .i64 p.base.k, .int .i64 p.base.a, .int .i64 p.base.b, .int .i64 p.base.c, .int .i64 p.base.d, .int .i64 p.len], .agg #[.int .i64 x.k, .int .i64 x.a, .int .i64 x.b, .int .i64 x.c, .int .i64 x.d]] w fun e w' => e = .returned (.bool (decide (x.cut p.len = p.base))) ∧ Below w.heap.size w w' := by
  have pk := implPrefixOk p
  rw [hp] at pk
  have PK := Lib.hid pk
  clear pk
  have ak := implAddrOk x
  rw [hx] at ak
  have AK := Lib.hid ak
  clear ak
  have hq := eq_pf p
  rw [decide_eq_false hz] at hq
  obtain ⟨hb, h0, h1⟩ := has_bits hp hz hk
  have hd : (x.k == p.base.k) = true := by simpa using hk.symm
  have fb := firstBitsC x p.len hx h0 h1
  have hl : (cutB (128 - x.bits + p.len).toNat x.whole).length = 16 := by rw [cutB_length, Ad.whole_length]
  have he := eq_arr _ _ hl p.base.whole_length
  have hdd : decide (cutB (128 - x.bits + p.len).toNat x.whole = p.base.whole) = decide (x.cut p.len = p.base) := by
    rw [decide_eq_decide]
    exact (Ad.cut_eq ⟨hx, h0, h1⟩ hb hk.symm).symm
  rw [hdd] at he
  obtain ⟨Y, hY⟩ : ∃ Y, Y = cutB (128 - x.bits + p.len).toNat x.whole := ⟨_, rfl⟩
  rw [← hY] at he fb
  obtain ⟨b, hbb⟩ : ∃ b : Bool, b = decide (x.cut p.len = p.base) := ⟨_, rfl⟩
  rw [← hbb] at he
  rw [← hbb]
  have FB := Lib.hid fb
  clear hp hx hz hk fb hl hdd hY hbb h0 h1 hb
  go_enter Try.func84, Try.ntmps84
  go_wp2_with fail
  refine (PK.out _).mono ?_
  rintro e w1 ⟨rfl, b1⟩
  obtain ⟨⟨c0, c1, c2, c3, c4, c5⟩, d0, d1, d2, d3, d4⟩ := pfad_box b1
  go_wp2_with fail
  refine (AK.out _).mono ?_
  rintro e w2 ⟨rfl, b2⟩
  have b12 := bthen b1 b2
  have B2 := bthen (Joins.below_alloc2 w _ _) b12
  clear c0 c1 c2 c3 c4 c5 d0 d1 d2 d3 d4
  obtain ⟨⟨c0, c1, c2, c3, c4, c5⟩, d0, d1, d2, d3, d4⟩ := pfad_box b12
  have k0 := cell_regrown c0
  have k1 := cell_regrown c1
  have k2 := cell_regrown c2
  have k3 := cell_regrown c3
  have k4 := cell_regrown c4
  have k5 := cell_regrown c5
  have l0 := cell_regrown d0
  have l1 := cell_regrown d1
  have l2 := cell_regrown d2
  have l3 := cell_regrown d3
  have l4 := cell_regrown d4
  go_wp2_with fail
  refine wp_region_quiet_below (by kernel_rfl) (by kernel_rfl) ?_
  repeat (go_big_quiet_step (first | (go_at_call 127; exact Calls.regrown_of (FB.out _)) | (go_at_call 128; exact Calls.regrown_of (packedC p.base _))))
  refine wpQuiet_nil ?_
  intro w3 hw3
  obtain ⟨⟨dq, osq⟩, hw3⟩ := hw3
  have B := below_regrown w2 dq osq
  rw [← hw3] at B
  clear hw3 k0 k1 k2 k3 k4 k5 l0 l1 l2 l3 l4 c0 c1 c2 c3 c4 c5 d0 d1 d2 d3 d4
  go_wp2
  go_ret
  exact ⟨rfl, bthen B2 B⟩


theorem implPrefixHas (p : Pf) (x : Ad) (w : World) : Calls Try.prog 84 #[.agg #[.int .i64 p.base.k, .int .i64 p.base.a, .int .i64 p.base.b, .int .i64 p.base.c, .int .i64 p.base.d, .int .i64 p.len], .agg #[.int .i64 x.k, .int .i64 x.a, .int .i64 x.b, .int .i64 x.c, .int .i64 x.d]] w fun e w' => e = .returned (.bool (p.has x)) ∧ Below w.heap.size w w' := by
  cases hp : p.ok
  · rw [show p.has x = false by simp [Pf.has, hp]]
    exact implHas_bad p x hp w
  · cases hx : x.ok
    · rw [show p.has x = false by simp [Pf.has, hx]]
      exact implHas_not p x hp hx w
    · by_cases hz : p = Pf.zero
      · rw [show p.has x = true by simp [Pf.has, hx, hz]; rw [← hz]; exact hp]
        exact implHas_all p x hp hx hz w
      · by_cases hk : p.base.k = x.k
        · rw [show p.has x = decide (x.cut p.len = p.base) by simp [Pf.has, hp, hx, hz, hk]]
          exact implHas_in p x hp hx hz hk w
        · rw [show p.has x = false by simp [Pf.has, hz, hk]]
          exact implHas_kind p x hp hx hz hk w

end Go.Proofs.Ytdndanbalmoklaa
