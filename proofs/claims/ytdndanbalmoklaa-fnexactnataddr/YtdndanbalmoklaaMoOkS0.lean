/-
  ModuleOk in the model: what it asks of prefixes.
-/
import Derived.Test.YtdndanbalmoklaaMo
import Derived.Test.YtdndanbalmoklaaMoOkLib
import Derived.Test.YtdndanbalmoklaaRuleOkS
import Derived.Test.YtdndanbalmoklaaKeyR
namespace Go.Proofs.Ytdndanbalmoklaa
set_option maxRecDepth 100000
open Go.RowKit


theorem anySB (p : Pf) (b : Bool) (h : decide (p = Pf.zero) = b) (w : World) : Calls Try.prog 67 #[.agg #[.int .i64 p.base.k, .int .i64 p.base.a, .int .i64 p.base.b, .int .i64 p.base.c, .int .i64 p.base.d, .int .i64 p.len]] w fun e w' => e = .returned (.bool b) ∧ Below w.heap.size w w' := h ▸ specAny p w
theorem inMoB (n hi : Int) (b : Bool) (h : upTo n hi = b) (w : World) : Calls Try.prog 71 #[.int .i64 n, .int .i64 hi] w fun e w' => e = .returned (.bool b) ∧ Below w.heap.size w w' := inSR n hi b w h
theorem Pf.base_ok {p : Pf} (h : p.ok = true) (hz : ¬ p = Pf.zero) : p.base.ok = true := by
  simp [Pf.ok, hz] at h
  exact h.1.1
theorem twins_zero1 {p q : Pf} (h : p = Pf.zero) : twins p q = false := by
  subst h
  simp [twins, pairA, Pf.zero, Ad.zero, Ad.ok]
theorem twins_zero2 {p q : Pf} (h : q = Pf.zero) : twins p q = false := by
  subst h
  simp [twins, pairA, Pf.zero, Ad.zero, Ad.ok]
theorem twins_both {p q : Pf} (h1 : p.ok = true) (h2 : q.ok = true) (z1 : ¬ p = Pf.zero) (z2 : ¬ q = Pf.zero) : twins p q = (decide (p.base.k = q.base.k) && decide (p.len = q.len)) := by
  simp [twins, pairA, h1, h2, Pf.base_ok h1 z1, Pf.base_ok h2 z2]

set_option maxHeartbeats 2000000 in
theorem twinsS_1 (p q : Pf) (w : World) (h1 : p.ok = false) : Calls Try.prog 70 #[.agg #[.int .i64 p.base.k, .int .i64 p.base.a, .int .i64 p.base.b, .int .i64 p.base.c, .int .i64 p.base.d, .int .i64 p.len], .agg #[.int .i64 q.base.k, .int .i64 q.base.a, .int .i64 q.base.b, .int .i64 q.base.c, .int .i64 q.base.d, .int .i64 q.len]] w fun e w' => e = .returned (.bool false) ∧ Below w.heap.size w w' := by
  have H1 := Lib.hid h1
  clear h1
  go_enter Try.func70, Try.ntmps70
  go_wp2_with fail
  refine Calls.mono (pfxSB p false H1.out _) ?_
  rintro e w1 ⟨rfl, b1⟩
  have q1 := Lib.hid (K.on b1 (g := w.heap.size) (by first | (simp; done) | (simp; omega)) (o := .cells #[.int .i64 p.base.k, .int .i64 p.base.a, .int .i64 p.base.b, .int .i64 p.base.c, .int .i64 p.base.d, .int .i64 p.len] 31) (K.oldAt (by first | (simp; done) | (simp; omega)) (K.newAt rfl)))
  have s1 := Lib.hid (K.on b1 (g := w.heap.size + 1) (by first | (simp; done) | (simp; omega)) (o := .cells #[.int .i64 q.base.k, .int .i64 q.base.a, .int .i64 q.base.b, .int .i64 q.base.c, .int .i64 q.base.d, .int .i64 q.len] 31) (K.newAt (by simp)))
  have B1 := Lib.hid (bthen (Joins.below_alloc2 w _ _) b1)
  clear b1
  have c0 := K.cell q1.out 0 _ rfl
  have d0 := K.cell s1.out 0 _ rfl
  have c1 := K.cell q1.out 1 _ rfl
  have d1 := K.cell s1.out 1 _ rfl
  have c2 := K.cell q1.out 2 _ rfl
  have d2 := K.cell s1.out 2 _ rfl
  have c3 := K.cell q1.out 3 _ rfl
  have d3 := K.cell s1.out 3 _ rfl
  have c4 := K.cell q1.out 4 _ rfl
  have d4 := K.cell s1.out 4 _ rfl
  have c5 := K.cell q1.out 5 _ rfl
  have d5 := K.cell s1.out 5 _ rfl
  go_wp2
  all_goals (go_ret; exact ⟨ret_bool (by first | rfl | (simp [*]; done) | (simp [*]; rfl)), B1.out⟩)

set_option maxHeartbeats 2000000 in
theorem twinsS_2 (p q : Pf) (w : World) (h1 : p.ok = true) (h2 : q.ok = false) : Calls Try.prog 70 #[.agg #[.int .i64 p.base.k, .int .i64 p.base.a, .int .i64 p.base.b, .int .i64 p.base.c, .int .i64 p.base.d, .int .i64 p.len], .agg #[.int .i64 q.base.k, .int .i64 q.base.a, .int .i64 q.base.b, .int .i64 q.base.c, .int .i64 q.base.d, .int .i64 q.len]] w fun e w' => e = .returned (.bool false) ∧ Below w.heap.size w w' := by
  have H1 := Lib.hid h1
  have H2 := Lib.hid h2
  clear h1 h2
  go_enter Try.func70, Try.ntmps70
  go_wp2_with fail
  refine Calls.mono (pfxSB p true H1.out _) ?_
  rintro e w1 ⟨rfl, b1⟩
  have q1 := Lib.hid (K.on b1 (g := w.heap.size) (by first | (simp; done) | (simp; omega)) (o := .cells #[.int .i64 p.base.k, .int .i64 p.base.a, .int .i64 p.base.b, .int .i64 p.base.c, .int .i64 p.base.d, .int .i64 p.len] 31) (K.oldAt (by first | (simp; done) | (simp; omega)) (K.newAt rfl)))
  have s1 := Lib.hid (K.on b1 (g := w.heap.size + 1) (by first | (simp; done) | (simp; omega)) (o := .cells #[.int .i64 q.base.k, .int .i64 q.base.a, .int .i64 q.base.b, .int .i64 q.base.c, .int .i64 q.base.d, .int .i64 q.len] 31) (K.newAt (by simp)))
  have B1 := Lib.hid (bthen (Joins.below_alloc2 w _ _) b1)
  clear b1
  have c0 := K.cell q1.out 0 _ rfl
  have d0 := K.cell s1.out 0 _ rfl
  have c1 := K.cell q1.out 1 _ rfl
  have d1 := K.cell s1.out 1 _ rfl
  have c2 := K.cell q1.out 2 _ rfl
  have d2 := K.cell s1.out 2 _ rfl
  have c3 := K.cell q1.out 3 _ rfl
  have d3 := K.cell s1.out 3 _ rfl
  have c4 := K.cell q1.out 4 _ rfl
  have d4 := K.cell s1.out 4 _ rfl
  have c5 := K.cell q1.out 5 _ rfl
  have d5 := K.cell s1.out 5 _ rfl
  go_wp2_with fail
  refine Calls.mono (pfxSB q false H2.out _) ?_
  rintro e w2 ⟨rfl, b2⟩
  have q2 := Lib.hid (K.below b2 q1.out)
  have s2 := Lib.hid (K.below b2 s1.out)
  have B2 := Lib.hid (bthen B1.out b2)
  clear c0 d0 c1 d1 c2 d2 c3 d3 c4 d4 c5 d5
  clear b2
  have c0 := K.cell q2.out 0 _ rfl
  have d0 := K.cell s2.out 0 _ rfl
  have c1 := K.cell q2.out 1 _ rfl
  have d1 := K.cell s2.out 1 _ rfl
  have c2 := K.cell q2.out 2 _ rfl
  have d2 := K.cell s2.out 2 _ rfl
  have c3 := K.cell q2.out 3 _ rfl
  have d3 := K.cell s2.out 3 _ rfl
  have c4 := K.cell q2.out 4 _ rfl
  have d4 := K.cell s2.out 4 _ rfl
  have c5 := K.cell q2.out 5 _ rfl
  have d5 := K.cell s2.out 5 _ rfl
  go_wp2
  all_goals (go_ret; exact ⟨ret_bool (by first | rfl | (simp [*]; done) | (simp [*]; rfl)), B2.out⟩)

set_option maxHeartbeats 2000000 in
theorem twinsS_3 (p q : Pf) (w : World) (h1 : p.ok = true) (h2 : q.ok = true) (h3 : decide (p = Pf.zero) = true) : Calls Try.prog 70 #[.agg #[.int .i64 p.base.k, .int .i64 p.base.a, .int .i64 p.base.b, .int .i64 p.base.c, .int .i64 p.base.d, .int .i64 p.len], .agg #[.int .i64 q.base.k, .int .i64 q.base.a, .int .i64 q.base.b, .int .i64 q.base.c, .int .i64 q.base.d, .int .i64 q.len]] w fun e w' => e = .returned (.bool false) ∧ Below w.heap.size w w' := by
  have H1 := Lib.hid h1
  have H2 := Lib.hid h2
  have H3 := Lib.hid h3
  clear h1 h2 h3
  go_enter Try.func70, Try.ntmps70
  go_wp2_with fail
  refine Calls.mono (pfxSB p true H1.out _) ?_
  rintro e w1 ⟨rfl, b1⟩
  have q1 := Lib.hid (K.on b1 (g := w.heap.size) (by first | (simp; done) | (simp; omega)) (o := .cells #[.int .i64 p.base.k, .int .i64 p.base.a, .int .i64 p.base.b, .int .i64 p.base.c, .int .i64 p.base.d, .int .i64 p.len] 31) (K.oldAt (by first | (simp; done) | (simp; omega)) (K.newAt rfl)))
  have s1 := Lib.hid (K.on b1 (g := w.heap.size + 1) (by first | (simp; done) | (simp; omega)) (o := .cells #[.int .i64 q.base.k, .int .i64 q.base.a, .int .i64 q.base.b, .int .i64 q.base.c, .int .i64 q.base.d, .int .i64 q.len] 31) (K.newAt (by simp)))
  have B1 := Lib.hid (bthen (Joins.below_alloc2 w _ _) b1)
  clear b1
  have c0 := K.cell q1.out 0 _ rfl
  have d0 := K.cell s1.out 0 _ rfl
  have c1 := K.cell q1.out 1 _ rfl
  have d1 := K.cell s1.out 1 _ rfl
  have c2 := K.cell q1.out 2 _ rfl
  have d2 := K.cell s1.out 2 _ rfl
  have c3 := K.cell q1.out 3 _ rfl
  have d3 := K.cell s1.out 3 _ rfl
  have c4 := K.cell q1.out 4 _ rfl
  have d4 := K.cell s1.out 4 _ rfl
  have c5 := K.cell q1.out 5 _ rfl
  have d5 := K.cell s1.out 5 _ rfl
  go_wp2_with fail
  refine Calls.mono (pfxSB q true H2.out _) ?_
  rintro e w2 ⟨rfl, b2⟩
  have q2 := Lib.hid (K.below b2 q1.out)
  have s2 := Lib.hid (K.below b2 s1.out)
  have B2 := Lib.hid (bthen B1.out b2)
  clear c0 d0 c1 d1 c2 d2 c3 d3 c4 d4 c5 d5
  clear b2
  have c0 := K.cell q2.out 0 _ rfl
  have d0 := K.cell s2.out 0 _ rfl
  have c1 := K.cell q2.out 1 _ rfl
  have d1 := K.cell s2.out 1 _ rfl
  have c2 := K.cell q2.out 2 _ rfl
  have d2 := K.cell s2.out 2 _ rfl
  have c3 := K.cell q2.out 3 _ rfl
  have d3 := K.cell s2.out 3 _ rfl
  have c4 := K.cell q2.out 4 _ rfl
  have d4 := K.cell s2.out 4 _ rfl
  have c5 := K.cell q2.out 5 _ rfl
  have d5 := K.cell s2.out 5 _ rfl
  go_wp2_with fail
  refine Calls.mono (anySB p true H3.out _) ?_
  rintro e w3 ⟨rfl, b3⟩
  have q3 := Lib.hid (K.below b3 q2.out)
  have s3 := Lib.hid (K.below b3 s2.out)
  have B3 := Lib.hid (bthen B2.out b3)
  clear c0 d0 c1 d1 c2 d2 c3 d3 c4 d4 c5 d5
  clear b3
  have c0 := K.cell q3.out 0 _ rfl
  have d0 := K.cell s3.out 0 _ rfl
  have c1 := K.cell q3.out 1 _ rfl
  have d1 := K.cell s3.out 1 _ rfl
  have c2 := K.cell q3.out 2 _ rfl
  have d2 := K.cell s3.out 2 _ rfl
  have c3 := K.cell q3.out 3 _ rfl
  have d3 := K.cell s3.out 3 _ rfl
  have c4 := K.cell q3.out 4 _ rfl
  have d4 := K.cell s3.out 4 _ rfl
  have c5 := K.cell q3.out 5 _ rfl
  have d5 := K.cell s3.out 5 _ rfl
  go_wp2
  all_goals (go_ret; exact ⟨ret_bool (by first | rfl | (simp [*]; done) | (simp [*]; rfl)), B3.out⟩)

set_option maxHeartbeats 2000000 in
theorem twinsS_4 (p q : Pf) (w : World) (h1 : p.ok = true) (h2 : q.ok = true) (h3 : decide (p = Pf.zero) = false) (h4 : decide (q = Pf.zero) = true) : Calls Try.prog 70 #[.agg #[.int .i64 p.base.k, .int .i64 p.base.a, .int .i64 p.base.b, .int .i64 p.base.c, .int .i64 p.base.d, .int .i64 p.len], .agg #[.int .i64 q.base.k, .int .i64 q.base.a, .int .i64 q.base.b, .int .i64 q.base.c, .int .i64 q.base.d, .int .i64 q.len]] w fun e w' => e = .returned (.bool false) ∧ Below w.heap.size w w' := by
  have H1 := Lib.hid h1
  have H2 := Lib.hid h2
  have H3 := Lib.hid h3
  have H4 := Lib.hid h4
  clear h1 h2 h3 h4
  go_enter Try.func70, Try.ntmps70
  go_wp2_with fail
  refine Calls.mono (pfxSB p true H1.out _) ?_
  rintro e w1 ⟨rfl, b1⟩
  have q1 := Lib.hid (K.on b1 (g := w.heap.size) (by first | (simp; done) | (simp; omega)) (o := .cells #[.int .i64 p.base.k, .int .i64 p.base.a, .int .i64 p.base.b, .int .i64 p.base.c, .int .i64 p.base.d, .int .i64 p.len] 31) (K.oldAt (by first | (simp; done) | (simp; omega)) (K.newAt rfl)))
  have s1 := Lib.hid (K.on b1 (g := w.heap.size + 1) (by first | (simp; done) | (simp; omega)) (o := .cells #[.int .i64 q.base.k, .int .i64 q.base.a, .int .i64 q.base.b, .int .i64 q.base.c, .int .i64 q.base.d, .int .i64 q.len] 31) (K.newAt (by simp)))
  have B1 := Lib.hid (bthen (Joins.below_alloc2 w _ _) b1)
  clear b1
  have c0 := K.cell q1.out 0 _ rfl
  have d0 := K.cell s1.out 0 _ rfl
  have c1 := K.cell q1.out 1 _ rfl
  have d1 := K.cell s1.out 1 _ rfl
  have c2 := K.cell q1.out 2 _ rfl
  have d2 := K.cell s1.out 2 _ rfl
  have c3 := K.cell q1.out 3 _ rfl
  have d3 := K.cell s1.out 3 _ rfl
  have c4 := K.cell q1.out 4 _ rfl
  have d4 := K.cell s1.out 4 _ rfl
  have c5 := K.cell q1.out 5 _ rfl
  have d5 := K.cell s1.out 5 _ rfl
  go_wp2_with fail
  refine Calls.mono (pfxSB q true H2.out _) ?_
  rintro e w2 ⟨rfl, b2⟩
  have q2 := Lib.hid (K.below b2 q1.out)
  have s2 := Lib.hid (K.below b2 s1.out)
  have B2 := Lib.hid (bthen B1.out b2)
  clear c0 d0 c1 d1 c2 d2 c3 d3 c4 d4 c5 d5
  clear b2
  have c0 := K.cell q2.out 0 _ rfl
  have d0 := K.cell s2.out 0 _ rfl
  have c1 := K.cell q2.out 1 _ rfl
  have d1 := K.cell s2.out 1 _ rfl
  have c2 := K.cell q2.out 2 _ rfl
  have d2 := K.cell s2.out 2 _ rfl
  have c3 := K.cell q2.out 3 _ rfl
  have d3 := K.cell s2.out 3 _ rfl
  have c4 := K.cell q2.out 4 _ rfl
  have d4 := K.cell s2.out 4 _ rfl
  have c5 := K.cell q2.out 5 _ rfl
  have d5 := K.cell s2.out 5 _ rfl
  go_wp2_with fail
  refine Calls.mono (anySB p false H3.out _) ?_
  rintro e w3 ⟨rfl, b3⟩
  have q3 := Lib.hid (K.below b3 q2.out)
  have s3 := Lib.hid (K.below b3 s2.out)
  have B3 := Lib.hid (bthen B2.out b3)
  clear c0 d0 c1 d1 c2 d2 c3 d3 c4 d4 c5 d5
  clear b3
  have c0 := K.cell q3.out 0 _ rfl
  have d0 := K.cell s3.out 0 _ rfl
  have c1 := K.cell q3.out 1 _ rfl
  have d1 := K.cell s3.out 1 _ rfl
  have c2 := K.cell q3.out 2 _ rfl
  have d2 := K.cell s3.out 2 _ rfl
  have c3 := K.cell q3.out 3 _ rfl
  have d3 := K.cell s3.out 3 _ rfl
  have c4 := K.cell q3.out 4 _ rfl
  have d4 := K.cell s3.out 4 _ rfl
  have c5 := K.cell q3.out 5 _ rfl
  have d5 := K.cell s3.out 5 _ rfl
  go_wp2_with fail
  refine Calls.mono (anySB q true H4.out _) ?_
  rintro e w4 ⟨rfl, b4⟩
  have q4 := Lib.hid (K.below b4 q3.out)
  have s4 := Lib.hid (K.below b4 s3.out)
  have B4 := Lib.hid (bthen B3.out b4)
  clear c0 d0 c1 d1 c2 d2 c3 d3 c4 d4 c5 d5
  clear b4
  have c0 := K.cell q4.out 0 _ rfl
  have d0 := K.cell s4.out 0 _ rfl
  have c1 := K.cell q4.out 1 _ rfl
  have d1 := K.cell s4.out 1 _ rfl
  have c2 := K.cell q4.out 2 _ rfl
  have d2 := K.cell s4.out 2 _ rfl
  have c3 := K.cell q4.out 3 _ rfl
  have d3 := K.cell s4.out 3 _ rfl
  have c4 := K.cell q4.out 4 _ rfl
  have d4 := K.cell s4.out 4 _ rfl
  have c5 := K.cell q4.out 5 _ rfl
  have d5 := K.cell s4.out 5 _ rfl
  go_wp2
  all_goals (go_ret; exact ⟨ret_bool (by first | rfl | (simp [*]; done) | (simp [*]; rfl)), B4.out⟩)

set_option maxHeartbeats 2000000 in
theorem twinsS_5 (p q : Pf) (w : World) (h1 : p.ok = true) (h2 : q.ok = true) (h3 : decide (p = Pf.zero) = false) (h4 : decide (q = Pf.zero) = false) : Calls Try.prog 70 #[.agg #[.int .i64 p.base.k, .int .i64 p.base.a, .int .i64 p.base.b, .int .i64 p.base.c, .int .i64 p.base.d, .int .i64 p.len], .agg #[.int .i64 q.base.k, .int .i64 q.base.a, .int .i64 q.base.b, .int .i64 q.base.c, .int .i64 q.base.d, .int .i64 q.len]] w fun e w' => e = .returned (.bool (decide (p.base.k = q.base.k) && decide (p.len = q.len))) ∧ Below w.heap.size w w' := by
  have H1 := Lib.hid h1
  have H2 := Lib.hid h2
  have H3 := Lib.hid h3
  have H4 := Lib.hid h4
  clear h1 h2 h3 h4
  go_enter Try.func70, Try.ntmps70
  go_wp2_with fail
  refine Calls.mono (pfxSB p true H1.out _) ?_
  rintro e w1 ⟨rfl, b1⟩
  have q1 := Lib.hid (K.on b1 (g := w.heap.size) (by first | (simp; done) | (simp; omega)) (o := .cells #[.int .i64 p.base.k, .int .i64 p.base.a, .int .i64 p.base.b, .int .i64 p.base.c, .int .i64 p.base.d, .int .i64 p.len] 31) (K.oldAt (by first | (simp; done) | (simp; omega)) (K.newAt rfl)))
  have s1 := Lib.hid (K.on b1 (g := w.heap.size + 1) (by first | (simp; done) | (simp; omega)) (o := .cells #[.int .i64 q.base.k, .int .i64 q.base.a, .int .i64 q.base.b, .int .i64 q.base.c, .int .i64 q.base.d, .int .i64 q.len] 31) (K.newAt (by simp)))
  have B1 := Lib.hid (bthen (Joins.below_alloc2 w _ _) b1)
  clear b1
  have c0 := K.cell q1.out 0 _ rfl
  have d0 := K.cell s1.out 0 _ rfl
  have c1 := K.cell q1.out 1 _ rfl
  have d1 := K.cell s1.out 1 _ rfl
  have c2 := K.cell q1.out 2 _ rfl
  have d2 := K.cell s1.out 2 _ rfl
  have c3 := K.cell q1.out 3 _ rfl
  have d3 := K.cell s1.out 3 _ rfl
  have c4 := K.cell q1.out 4 _ rfl
  have d4 := K.cell s1.out 4 _ rfl
  have c5 := K.cell q1.out 5 _ rfl
  have d5 := K.cell s1.out 5 _ rfl
  go_wp2_with fail
  refine Calls.mono (pfxSB q true H2.out _) ?_
  rintro e w2 ⟨rfl, b2⟩
  have q2 := Lib.hid (K.below b2 q1.out)
  have s2 := Lib.hid (K.below b2 s1.out)
  have B2 := Lib.hid (bthen B1.out b2)
  clear c0 d0 c1 d1 c2 d2 c3 d3 c4 d4 c5 d5
  clear b2
  have c0 := K.cell q2.out 0 _ rfl
  have d0 := K.cell s2.out 0 _ rfl
  have c1 := K.cell q2.out 1 _ rfl
  have d1 := K.cell s2.out 1 _ rfl
  have c2 := K.cell q2.out 2 _ rfl
  have d2 := K.cell s2.out 2 _ rfl
  have c3 := K.cell q2.out 3 _ rfl
  have d3 := K.cell s2.out 3 _ rfl
  have c4 := K.cell q2.out 4 _ rfl
  have d4 := K.cell s2.out 4 _ rfl
  have c5 := K.cell q2.out 5 _ rfl
  have d5 := K.cell s2.out 5 _ rfl
  go_wp2_with fail
  refine Calls.mono (anySB p false H3.out _) ?_
  rintro e w3 ⟨rfl, b3⟩
  have q3 := Lib.hid (K.below b3 q2.out)
  have s3 := Lib.hid (K.below b3 s2.out)
  have B3 := Lib.hid (bthen B2.out b3)
  clear c0 d0 c1 d1 c2 d2 c3 d3 c4 d4 c5 d5
  clear b3
  have c0 := K.cell q3.out 0 _ rfl
  have d0 := K.cell s3.out 0 _ rfl
  have c1 := K.cell q3.out 1 _ rfl
  have d1 := K.cell s3.out 1 _ rfl
  have c2 := K.cell q3.out 2 _ rfl
  have d2 := K.cell s3.out 2 _ rfl
  have c3 := K.cell q3.out 3 _ rfl
  have d3 := K.cell s3.out 3 _ rfl
  have c4 := K.cell q3.out 4 _ rfl
  have d4 := K.cell s3.out 4 _ rfl
  have c5 := K.cell q3.out 5 _ rfl
  have d5 := K.cell s3.out 5 _ rfl
  go_wp2_with fail
  refine Calls.mono (anySB q false H4.out _) ?_
  rintro e w4 ⟨rfl, b4⟩
  have q4 := Lib.hid (K.below b4 q3.out)
  have s4 := Lib.hid (K.below b4 s3.out)
  have B4 := Lib.hid (bthen B3.out b4)
  clear c0 d0 c1 d1 c2 d2 c3 d3 c4 d4 c5 d5
  clear b4
  have c0 := K.cell q4.out 0 _ rfl
  have d0 := K.cell s4.out 0 _ rfl
  have c1 := K.cell q4.out 1 _ rfl
  have d1 := K.cell s4.out 1 _ rfl
  have c2 := K.cell q4.out 2 _ rfl
  have d2 := K.cell s4.out 2 _ rfl
  have c3 := K.cell q4.out 3 _ rfl
  have d3 := K.cell s4.out 3 _ rfl
  have c4 := K.cell q4.out 4 _ rfl
  have d4 := K.cell s4.out 4 _ rfl
  have c5 := K.cell q4.out 5 _ rfl
  have d5 := K.cell s4.out 5 _ rfl
  go_wp2
  all_goals (go_ret; exact ⟨ret_bool (by first | rfl | (simp [*]; done) | (simp [*]; rfl)), B4.out⟩)

theorem twinsS (p q : Pf) (w : World) : Calls Try.prog 70 #[.agg #[.int .i64 p.base.k, .int .i64 p.base.a, .int .i64 p.base.b, .int .i64 p.base.c, .int .i64 p.base.d, .int .i64 p.len], .agg #[.int .i64 q.base.k, .int .i64 q.base.a, .int .i64 q.base.b, .int .i64 q.base.c, .int .i64 q.base.d, .int .i64 q.len]] w fun e w' => e = .returned (.bool (twins p q)) ∧ Below w.heap.size w w' := by
  cases h1 : p.ok with
  | false => exact (twinsS_1 p q w h1).mono fun _ _ ⟨a, b⟩ => ⟨a.trans (ret_bool (by simp [twins, h1])), b⟩
  | true =>
    cases h2 : q.ok with
    | false => exact (twinsS_2 p q w h1 h2).mono fun _ _ ⟨a, b⟩ => ⟨a.trans (ret_bool (by simp [twins, h2])), b⟩
    | true =>
      by_cases z1 : p = Pf.zero
      · exact (twinsS_3 p q w h1 h2 (decide_eq_true z1)).mono fun _ _ ⟨a, b⟩ => ⟨a.trans (ret_bool (twins_zero1 z1).symm), b⟩
      · by_cases z2 : q = Pf.zero
        · exact (twinsS_4 p q w h1 h2 (decide_eq_false z1) (decide_eq_true z2)).mono fun _ _ ⟨a, b⟩ => ⟨a.trans (ret_bool (twins_zero2 z2).symm), b⟩
        · exact (twinsS_5 p q w h1 h2 (decide_eq_false z1) (decide_eq_false z2)).mono fun _ _ ⟨a, b⟩ => ⟨a.trans (ret_bool (twins_both h1 h2 z1 z2).symm), b⟩
theorem twinsSB (p q : Pf) (b : Bool) (h : twins p q = b) (w : World) : Calls Try.prog 70 #[.agg #[.int .i64 p.base.k, .int .i64 p.base.a, .int .i64 p.base.b, .int .i64 p.base.c, .int .i64 p.base.d, .int .i64 p.len], .agg #[.int .i64 q.base.k, .int .i64 q.base.a, .int .i64 q.base.b, .int .i64 q.base.c, .int .i64 q.base.d, .int .i64 q.len]] w fun e w' => e = .returned (.bool b) ∧ Below w.heap.size w w' := h ▸ twinsS p q w
end Go.Proofs.Ytdndanbalmoklaa
