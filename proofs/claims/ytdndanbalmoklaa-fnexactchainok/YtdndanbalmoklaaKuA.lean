/-
  ModuleOk in the model: what it asks of prefixes. ModuleOk in the model: modules that filter. ModuleOk in the model: modules with a number. ModuleOk in the model: modules that translate addresses, that count hops. ModuleOk in the model: all kinds. ChainOk in the model.
-/
import Derived.Test.YtdndanbalmoklaaMo
import Derived.Test.YtdndanbalmoklaaMoOkLib
import Derived.Test.YtdndanbalmoklaaRuleOkS
import Derived.Test.YtdndanbalmoklaaKeyR
import Derived.Test.YtdndanbalmoklaaChainLib
namespace Go.Proofs.Ytdndanbalmoklaa
set_option maxRecDepth 100000
open Go.RowKit


theorem anySB (p : Pf) (b : Bool) (h : decide (p = Pf.zero) = b) (w : World) : Calls Try.prog 67 #[.agg #[.int .i64 p.base.k, .int .i64 p.base.a, .int .i64 p.base.b, .int .i64 p.base.c, .int .i64 p.base.d, .int .i64 p.len]] w fun e w' => e = .returned (.bool b) ∧ Below w.heap.size w w' := h ▸ specAny p w
theorem inMoB (n hi : Int) (b : Bool) (h : upTo n hi = b) (w : World) : Calls Try.prog 71 #[.int .i64 n, .int .i64 hi] w fun e w' => e = .returned (.bool b) ∧ Below w.heap.size w w' := inSR n hi b w h
theorem Pf.base_ok {p : Pf} (h : p.ok = true) (hz : ¬ p = Pf.zero) : p.base.ok = true := by
  simp [Pf.ok, hz] at h
  exact h.1.1
theorem twins_zero1 {p q : Pf} (h : p = Pf.zero) : twins p q = false := by
  subst h
  simp [twins, pairA, Pf.zero, Ad.zero, Ad.ok]
theorem twins_zero2 {p q : Pf} (h : q = Pf.zero) : twins p q = false := by
  subst h
  simp [twins, pairA, Pf.zero, Ad.zero, Ad.ok]
theorem twins_both {p q : Pf} (h1 : p.ok = true) (h2 : q.ok = true) (z1 : ¬ p = Pf.zero) (z2 : ¬ q = Pf.zero) : twins p q = (decide (p.base.k = q.base.k) && decide (p.len = q.len)) := by
  simp [twins, pairA, h1, h2, Pf.base_ok h1 z1, Pf.base_ok h2 z2]

set_option maxHeartbeats 2000000 in
theorem twinsS_1 (p q : Pf) (w : World) (h1 : p.ok = false) : Calls Try.prog 70 #[.agg #[.int .i64 p.base.k, .int .i64 p.base.a, .int .i64 p.base.b, .int .i64 p.base.c, .int .i64 p.base.d, .int .i64 p.len], .agg #[.int .i64 q.base.k, .int .i64 q.base.a, .int .i64 q.base.b, .int .i64 q.base.c, .int .i64 q.base.d, .int .i64 q.len]] w fun e w' => e = .returned (.bool false) ∧ Below w.heap.size w w' := by
  have H1 := Lib.hid h1
  clear h1
  go_enter Try.func70, Try.ntmps70
  go_wp2_with fail
  refine Calls.mono (pfxSB p false H1.out _) ?_
  rintro e w1 ⟨rfl, b1⟩
  have q1 := Lib.hid (K.on b1 (g := w.heap.size) (by first | (simp; done) | (simp; omega)) (o := .cells #[.int .i64 p.base.k, .int .i64 p.base.a, .int .i64 p.base.b, .int .i64 p.base.c, .int .i64 p.base.d, .int .i64 p.len] 31) (K.oldAt (by first | (simp; done) | (simp; omega)) (K.newAt rfl)))
  have s1 := Lib.hid (K.on b1 (g := w.heap.size + 1) (by first | (simp; done) | (simp; omega)) (o := .cells #[.int .i64 q.base.k, .int .i64 q.base.a, .int .i64 q.base.b, .int .i64 q.base.c, .int .i64 q.base.d, .int .i64 q.len] 31) (K.newAt (by simp)))
  have B1 := Lib.hid (bthen (Joins.below_alloc2 w _ _) b1)
  clear b1
  have c0 := K.cell q1.out 0 _ rfl
  have d0 := K.cell s1.out 0 _ rfl
  have c1 := K.cell q1.out 1 _ rfl
  have d1 := K.cell s1.out 1 _ rfl
  have c2 := K.cell q1.out 2 _ rfl
  have d2 := K.cell s1.out 2 _ rfl
  have c3 := K.cell q1.out 3 _ rfl
  have d3 := K.cell s1.out 3 _ rfl
  have c4 := K.cell q1.out 4 _ rfl
  have d4 := K.cell s1.out 4 _ rfl
  have c5 := K.cell q1.out 5 _ rfl
  have d5 := K.cell s1.out 5 _ rfl
  go_wp2
  all_goals (go_ret; exact ⟨ret_bool (by first | rfl | (simp [*]; done) | (simp [*]; rfl)), B1.out⟩)

set_option maxHeartbeats 2000000 in
theorem twinsS_2 (p q : Pf) (w : World) (h1 : p.ok = true) (h2 : q.ok = false) : Calls Try.prog 70 #[.agg #[.int .i64 p.base.k, .int .i64 p.base.a, .int .i64 p.base.b, .int .i64 p.base.c, .int .i64 p.base.d, .int .i64 p.len], .agg #[.int .i64 q.base.k, .int .i64 q.base.a, .int .i64 q.base.b, .int .i64 q.base.c, .int .i64 q.base.d, .int .i64 q.len]] w fun e w' => e = .returned (.bool false) ∧ Below w.heap.size w w' := by
  have H1 := Lib.hid h1
  have H2 := Lib.hid h2
  clear h1 h2
  go_enter Try.func70, Try.ntmps70
  go_wp2_with fail
  refine Calls.mono (pfxSB p true H1.out _) ?_
  rintro e w1 ⟨rfl, b1⟩
  have q1 := Lib.hid (K.on b1 (g := w.heap.size) (by first | (simp; done) | (simp; omega)) (o := .cells #[.int .i64 p.base.k, .int .i64 p.base.a, .int .i64 p.base.b, .int .i64 p.base.c, .int .i64 p.base.d, .int .i64 p.len] 31) (K.oldAt (by first | (simp; done) | (simp; omega)) (K.newAt rfl)))
  have s1 := Lib.hid (K.on b1 (g := w.heap.size + 1) (by first | (simp; done) | (simp; omega)) (o := .cells #[.int .i64 q.base.k, .int .i64 q.base.a, .int .i64 q.base.b, .int .i64 q.base.c, .int .i64 q.base.d, .int .i64 q.len] 31) (K.newAt (by simp)))
  have B1 := Lib.hid (bthen (Joins.below_alloc2 w _ _) b1)
  clear b1
  have c0 := K.cell q1.out 0 _ rfl
  have d0 := K.cell s1.out 0 _ rfl
  have c1 := K.cell q1.out 1 _ rfl
  have d1 := K.cell s1.out 1 _ rfl
  have c2 := K.cell q1.out 2 _ rfl
  have d2 := K.cell s1.out 2 _ rfl
  have c3 := K.cell q1.out 3 _ rfl
  have d3 := K.cell s1.out 3 _ rfl
  have c4 := K.cell q1.out 4 _ rfl
  have d4 := K.cell s1.out 4 _ rfl
  have c5 := K.cell q1.out 5 _ rfl
  have d5 := K.cell s1.out 5 _ rfl
  go_wp2_with fail
  refine Calls.mono (pfxSB q false H2.out _) ?_
  rintro e w2 ⟨rfl, b2⟩
  have q2 := Lib.hid (K.below b2 q1.out)
  have s2 := Lib.hid (K.below b2 s1.out)
  have B2 := Lib.hid (bthen B1.out b2)
  clear c0 d0 c1 d1 c2 d2 c3 d3 c4 d4 c5 d5
  clear b2
  have c0 := K.cell q2.out 0 _ rfl
  have d0 := K.cell s2.out 0 _ rfl
  have c1 := K.cell q2.out 1 _ rfl
  have d1 := K.cell s2.out 1 _ rfl
  have c2 := K.cell q2.out 2 _ rfl
  have d2 := K.cell s2.out 2 _ rfl
  have c3 := K.cell q2.out 3 _ rfl
  have d3 := K.cell s2.out 3 _ rfl
  have c4 := K.cell q2.out 4 _ rfl
  have d4 := K.cell s2.out 4 _ rfl
  have c5 := K.cell q2.out 5 _ rfl
  have d5 := K.cell s2.out 5 _ rfl
  go_wp2
  all_goals (go_ret; exact ⟨ret_bool (by first | rfl | (simp [*]; done) | (simp [*]; rfl)), B2.out⟩)

set_option maxHeartbeats 2000000 in
theorem twinsS_3 (p q : Pf) (w : World) (h1 : p.ok = true) (h2 : q.ok = true) (h3 : decide (p = Pf.zero) = true) : Calls Try.prog 70 #[.agg #[.int .i64 p.base.k, .int .i64 p.base.a, .int .i64 p.base.b, .int .i64 p.base.c, .int .i64 p.base.d, .int .i64 p.len], .agg #[.int .i64 q.base.k, .int .i64 q.base.a, .int .i64 q.base.b, .int .i64 q.base.c, .int .i64 q.base.d, .int .i64 q.len]] w fun e w' => e = .returned (.bool false) ∧ Below w.heap.size w w' := by
  have H1 := Lib.hid h1
  have H2 := Lib.hid h2
  have H3 := Lib.hid h3
  clear h1 h2 h3
  go_enter Try.func70, Try.ntmps70
  go_wp2_with fail
  refine Calls.mono (pfxSB p true H1.out _) ?_
  rintro e w1 ⟨rfl, b1⟩
  have q1 := Lib.hid (K.on b1 (g := w.heap.size) (by first | (simp; done) | (simp; omega)) (o := .cells #[.int .i64 p.base.k, .int .i64 p.base.a, .int .i64 p.base.b, .int .i64 p.base.c, .int .i64 p.base.d, .int .i64 p.len] 31) (K.oldAt (by first | (simp; done) | (simp; omega)) (K.newAt rfl)))
  have s1 := Lib.hid (K.on b1 (g := w.heap.size + 1) (by first | (simp; done) | (simp; omega)) (o := .cells #[.int .i64 q.base.k, .int .i64 q.base.a, .int .i64 q.base.b, .int .i64 q.base.c, .int .i64 q.base.d, .int .i64 q.len] 31) (K.newAt (by simp)))
  have B1 := Lib.hid (bthen (Joins.below_alloc2 w _ _) b1)
  clear b1
  have c0 := K.cell q1.out 0 _ rfl
  have d0 := K.cell s1.out 0 _ rfl
  have c1 := K.cell q1.out 1 _ rfl
  have d1 := K.cell s1.out 1 _ rfl
  have c2 := K.cell q1.out 2 _ rfl
  have d2 := K.cell s1.out 2 _ rfl
  have c3 := K.cell q1.out 3 _ rfl
  have d3 := K.cell s1.out 3 _ rfl
  have c4 := K.cell q1.out 4 _ rfl
  have d4 := K.cell s1.out 4 _ rfl
  have c5 := K.cell q1.out 5 _ rfl
  have d5 := K.cell s1.out 5 _ rfl
  go_wp2_with fail
  refine Calls.mono (pfxSB q true H2.out _) ?_
  rintro e w2 ⟨rfl, b2⟩
  have q2 := Lib.hid (K.below b2 q1.out)
  have s2 := Lib.hid (K.below b2 s1.out)
  have B2 := Lib.hid (bthen B1.out b2)
  clear c0 d0 c1 d1 c2 d2 c3 d3 c4 d4 c5 d5
  clear b2
  have c0 := K.cell q2.out 0 _ rfl
  have d0 := K.cell s2.out 0 _ rfl
  have c1 := K.cell q2.out 1 _ rfl
  have d1 := K.cell s2.out 1 _ rfl
  have c2 := K.cell q2.out 2 _ rfl
  have d2 := K.cell s2.out 2 _ rfl
  have c3 := K.cell q2.out 3 _ rfl
  have d3 := K.cell s2.out 3 _ rfl
  have c4 := K.cell q2.out 4 _ rfl
  have d4 := K.cell s2.out 4 _ rfl
  have c5 := K.cell q2.out 5 _ rfl
  have d5 := K.cell s2.out 5 _ rfl
  go_wp2_with fail
  refine Calls.mono (anySB p true H3.out _) ?_
  rintro e w3 ⟨rfl, b3⟩
  have q3 := Lib.hid (K.below b3 q2.out)
  have s3 := Lib.hid (K.below b3 s2.out)
  have B3 := Lib.hid (bthen B2.out b3)
  clear c0 d0 c1 d1 c2 d2 c3 d3 c4 d4 c5 d5
  clear b3
  have c0 := K.cell q3.out 0 _ rfl
  have d0 := K.cell s3.out 0 _ rfl
  have c1 := K.cell q3.out 1 _ rfl
  have d1 := K.cell s3.out 1 _ rfl
  have c2 := K.cell q3.out 2 _ rfl
  have d2 := K.cell s3.out 2 _ rfl
  have c3 := K.cell q3.out 3 _ rfl
  have d3 := K.cell s3.out 3 _ rfl
  have c4 := K.cell q3.out 4 _ rfl
  have d4 := K.cell s3.out 4 _ rfl
  have c5 := K.cell q3.out 5 _ rfl
  have d5 := K.cell s3.out 5 _ rfl
  go_wp2
  all_goals (go_ret; exact ⟨ret_bool (by first | rfl | (simp [*]; done) | (simp [*]; rfl)), B3.out⟩)

set_option maxHeartbeats 2000000 in
theorem twinsS_4 (p q : Pf) (w : World) (h1 : p.ok = true) (h2 : q.ok = true) (h3 : decide (p = Pf.zero) = false) (h4 : decide (q = Pf.zero) = true) : Calls Try.prog 70 #[.agg #[.int .i64 p.base.k, .int .i64 p.base.a, .int .i64 p.base.b, .int .i64 p.base.c, .int .i64 p.base.d, .int .i64 p.len], .agg #[.int .i64 q.base.k, .int .i64 q.base.a, .int .i64 q.base.b, .int .i64 q.base.c, .int .i64 q.base.d, .int .i64 q.len]] w fun e w' => e = .returned (.bool false) ∧ Below w.heap.size w w' := by
  have H1 := Lib.hid h1
  have H2 := Lib.hid h2
  have H3 := Lib.hid h3
  have H4 := Lib.hid h4
  clear h1 h2 h3 h4
  go_enter Try.func70, Try.ntmps70
  go_wp2_with fail
  refine Calls.mono (pfxSB p true H1.out _) ?_
  rintro e w1 ⟨rfl, b1⟩
  have q1 := Lib.hid (K.on b1 (g := w.heap.size) (by first | (simp; done) | (simp; omega)) (o := .cells #[.int .i64 p.base.k, .int .i64 p.base.a, .int .i64 p.base.b, .int .i64 p.base.c, .int .i64 p.base.d, .int .i64 p.len] 31) (K.oldAt (by first | (simp; done) | (simp; omega)) (K.newAt rfl)))
  have s1 := Lib.hid (K.on b1 (g := w.heap.size + 1) (by first | (simp; done) | (simp; omega)) (o := .cells #[.int .i64 q.base.k, .int .i64 q.base.a, .int .i64 q.base.b, .int .i64 q.base.c, .int .i64 q.base.d, .int .i64 q.len] 31) (K.newAt (by simp)))
  have B1 := Lib.hid (bthen (Joins.below_alloc2 w _ _) b1)
  clear b1
  have c0 := K.cell q1.out 0 _ rfl
  have d0 := K.cell s1.out 0 _ rfl
  have c1 := K.cell q1.out 1 _ rfl
  have d1 := K.cell s1.out 1 _ rfl
  have c2 := K.cell q1.out 2 _ rfl
  have d2 := K.cell s1.out 2 _ rfl
  have c3 := K.cell q1.out 3 _ rfl
  have d3 := K.cell s1.out 3 _ rfl
  have c4 := K.cell q1.out 4 _ rfl
  have d4 := K.cell s1.out 4 _ rfl
  have c5 := K.cell q1.out 5 _ rfl
  have d5 := K.cell s1.out 5 _ rfl
  go_wp2_with fail
  refine Calls.mono (pfxSB q true H2.out _) ?_
  rintro e w2 ⟨rfl, b2⟩
  have q2 := Lib.hid (K.below b2 q1.out)
  have s2 := Lib.hid (K.below b2 s1.out)
  have B2 := Lib.hid (bthen B1.out b2)
  clear c0 d0 c1 d1 c2 d2 c3 d3 c4 d4 c5 d5
  clear b2
  have c0 := K.cell q2.out 0 _ rfl
  have d0 := K.cell s2.out 0 _ rfl
  have c1 := K.cell q2.out 1 _ rfl
  have d1 := K.cell s2.out 1 _ rfl
  have c2 := K.cell q2.out 2 _ rfl
  have d2 := K.cell s2.out 2 _ rfl
  have c3 := K.cell q2.out 3 _ rfl
  have d3 := K.cell s2.out 3 _ rfl
  have c4 := K.cell q2.out 4 _ rfl
  have d4 := K.cell s2.out 4 _ rfl
  have c5 := K.cell q2.out 5 _ rfl
  have d5 := K.cell s2.out 5 _ rfl
  go_wp2_with fail
  refine Calls.mono (anySB p false H3.out _) ?_
  rintro e w3 ⟨rfl, b3⟩
  have q3 := Lib.hid (K.below b3 q2.out)
  have s3 := Lib.hid (K.below b3 s2.out)
  have B3 := Lib.hid (bthen B2.out b3)
  clear c0 d0 c1 d1 c2 d2 c3 d3 c4 d4 c5 d5
  clear b3
  have c0 := K.cell q3.out 0 _ rfl
  have d0 := K.cell s3.out 0 _ rfl
  have c1 := K.cell q3.out 1 _ rfl
  have d1 := K.cell s3.out 1 _ rfl
  have c2 := K.cell q3.out 2 _ rfl
  have d2 := K.cell s3.out 2 _ rfl
  have c3 := K.cell q3.out 3 _ rfl
  have d3 := K.cell s3.out 3 _ rfl
  have c4 := K.cell q3.out 4 _ rfl
  have d4 := K.cell s3.out 4 _ rfl
  have c5 := K.cell q3.out 5 _ rfl
  have d5 := K.cell s3.out 5 _ rfl
  go_wp2_with fail
  refine Calls.mono (anySB q true H4.out _) ?_
  rintro e w4 ⟨rfl, b4⟩
  have q4 := Lib.hid (K.below b4 q3.out)
  have s4 := Lib.hid (K.below b4 s3.out)
  have B4 := Lib.hid (bthen B3.out b4)
  clear c0 d0 c1 d1 c2 d2 c3 d3 c4 d4 c5 d5
  clear b4
  have c0 := K.cell q4.out 0 _ rfl
  have d0 := K.cell s4.out 0 _ rfl
  have c1 := K.cell q4.out 1 _ rfl
  have d1 := K.cell s4.out 1 _ rfl
  have c2 := K.cell q4.out 2 _ rfl
  have d2 := K.cell s4.out 2 _ rfl
  have c3 := K.cell q4.out 3 _ rfl
  have d3 := K.cell s4.out 3 _ rfl
  have c4 := K.cell q4.out 4 _ rfl
  have d4 := K.cell s4.out 4 _ rfl
  have c5 := K.cell q4.out 5 _ rfl
  have d5 := K.cell s4.out 5 _ rfl
  go_wp2
  all_goals (go_ret; exact ⟨ret_bool (by first | rfl | (simp [*]; done) | (simp [*]; rfl)), B4.out⟩)

set_option maxHeartbeats 2000000 in
theorem twinsS_5 (p q : Pf) (w : World) (h1 : p.ok = true) (h2 : q.ok = true) (h3 : decide (p = Pf.zero) = false) (h4 : decide (q = Pf.zero) = false) : Calls Try.prog 70 #[.agg #[.int .i64 p.base.k, .int .i64 p.base.a, .int .i64 p.base.b, .int .i64 p.base.c, .int .i64 p.base.d, .int .i64 p.len], .agg #[.int .i64 q.base.k, .int .i64 q.base.a, .int .i64 q.base.b, .int .i64 q.base.c, .int .i64 q.base.d, .int .i64 q.len]] w fun e w' => e = .returned (.bool (decide (p.base.k = q.base.k) && decide (p.len = q.len))) ∧ Below w.heap.size w w' := by
  have H1 := Lib.hid h1
  have H2 := Lib.hid h2
  have H3 := Lib.hid h3
  have H4 := Lib.hid h4
  clear h1 h2 h3 h4
  go_enter Try.func70, Try.ntmps70
  go_wp2_with fail
  refine Calls.mono (pfxSB p true H1.out _) ?_
  rintro e w1 ⟨rfl, b1⟩
  have q1 := Lib.hid (K.on b1 (g := w.heap.size) (by first | (simp; done) | (simp; omega)) (o := .cells #[.int .i64 p.base.k, .int .i64 p.base.a, .int .i64 p.base.b, .int .i64 p.base.c, .int .i64 p.base.d, .int .i64 p.len] 31) (K.oldAt (by first | (simp; done) | (simp; omega)) (K.newAt rfl)))
  have s1 := Lib.hid (K.on b1 (g := w.heap.size + 1) (by first | (simp; done) | (simp; omega)) (o := .cells #[.int .i64 q.base.k, .int .i64 q.base.a, .int .i64 q.base.b, .int .i64 q.base.c, .int .i64 q.base.d, .int .i64 q.len] 31) (K.newAt (by simp)))
  have B1 := Lib.hid (bthen (Joins.below_alloc2 w _ _) b1)
  clear b1
  have c0 := K.cell q1.out 0 _ rfl
  have d0 := K.cell s1.out 0 _ rfl
  have c1 := K.cell q1.out 1 _ rfl
  have d1 := K.cell s1.out 1 _ rfl
  have c2 := K.cell q1.out 2 _ rfl
  have d2 := K.cell s1.out 2 _ rfl
  have c3 := K.cell q1.out 3 _ rfl
  have d3 := K.cell s1.out 3 _ rfl
  have c4 := K.cell q1.out 4 _ rfl
  have d4 := K.cell s1.out 4 _ rfl
  have c5 := K.cell q1.out 5 _ rfl
  have d5 := K.cell s1.out 5 _ rfl
  go_wp2_with fail
  refine Calls.mono (pfxSB q true H2.out _) ?_
  rintro e w2 ⟨rfl, b2⟩
  have q2 := Lib.hid (K.below b2 q1.out)
  have s2 := Lib.hid (K.below b2 s1.out)
  have B2 := Lib.hid (bthen B1.out b2)
  clear c0 d0 c1 d1 c2 d2 c3 d3 c4 d4 c5 d5
  clear b2
  have c0 := K.cell q2.out 0 _ rfl
  have d0 := K.cell s2.out 0 _ rfl
  have c1 := K.cell q2.out 1 _ rfl
  have d1 := K.cell s2.out 1 _ rfl
  have c2 := K.cell q2.out 2 _ rfl
  have d2 := K.cell s2.out 2 _ rfl
  have c3 := K.cell q2.out 3 _ rfl
  have d3 := K.cell s2.out 3 _ rfl
  have c4 := K.cell q2.out 4 _ rfl
  have d4 := K.cell s2.out 4 _ rfl
  have c5 := K.cell q2.out 5 _ rfl
  have d5 := K.cell s2.out 5 _ rfl
  go_wp2_with fail
  refine Calls.mono (anySB p false H3.out _) ?_
  rintro e w3 ⟨rfl, b3⟩
  have q3 := Lib.hid (K.below b3 q2.out)
  have s3 := Lib.hid (K.below b3 s2.out)
  have B3 := Lib.hid (bthen B2.out b3)
  clear c0 d0 c1 d1 c2 d2 c3 d3 c4 d4 c5 d5
  clear b3
  have c0 := K.cell q3.out 0 _ rfl
  have d0 := K.cell s3.out 0 _ rfl
  have c1 := K.cell q3.out 1 _ rfl
  have d1 := K.cell s3.out 1 _ rfl
  have c2 := K.cell q3.out 2 _ rfl
  have d2 := K.cell s3.out 2 _ rfl
  have c3 := K.cell q3.out 3 _ rfl
  have d3 := K.cell s3.out 3 _ rfl
  have c4 := K.cell q3.out 4 _ rfl
  have d4 := K.cell s3.out 4 _ rfl
  have c5 := K.cell q3.out 5 _ rfl
  have d5 := K.cell s3.out 5 _ rfl
  go_wp2_with fail
  refine Calls.mono (anySB q false H4.out _) ?_
  rintro e w4 ⟨rfl, b4⟩
  have q4 := Lib.hid (K.below b4 q3.out)
  have s4 := Lib.hid (K.below b4 s3.out)
  have B4 := Lib.hid (bthen B3.out b4)
  clear c0 d0 c1 d1 c2 d2 c3 d3 c4 d4 c5 d5
  clear b4
  have c0 := K.cell q4.out 0 _ rfl
  have d0 := K.cell s4.out 0 _ rfl
  have c1 := K.cell q4.out 1 _ rfl
  have d1 := K.cell s4.out 1 _ rfl
  have c2 := K.cell q4.out 2 _ rfl
  have d2 := K.cell s4.out 2 _ rfl
  have c3 := K.cell q4.out 3 _ rfl
  have d3 := K.cell s4.out 3 _ rfl
  have c4 := K.cell q4.out 4 _ rfl
  have d4 := K.cell s4.out 4 _ rfl
  have c5 := K.cell q4.out 5 _ rfl
  have d5 := K.cell s4.out 5 _ rfl
  go_wp2
  all_goals (go_ret; exact ⟨ret_bool (by first | rfl | (simp [*]; done) | (simp [*]; rfl)), B4.out⟩)

theorem twinsS (p q : Pf) (w : World) : Calls Try.prog 70 #[.agg #[.int .i64 p.base.k, .int .i64 p.base.a, .int .i64 p.base.b, .int .i64 p.base.c, .int .i64 p.base.d, .int .i64 p.len], .agg #[.int .i64 q.base.k, .int .i64 q.base.a, .int .i64 q.base.b, .int .i64 q.base.c, .int .i64 q.base.d, .int .i64 q.len]] w fun e w' => e = .returned (.bool (twins p q)) ∧ Below w.heap.size w w' := by
  cases h1 : p.ok with
  | false => exact (twinsS_1 p q w h1).mono fun _ _ ⟨a, b⟩ => ⟨a.trans (ret_bool (by simp [twins, h1])), b⟩
  | true =>
    cases h2 : q.ok with
    | false => exact (twinsS_2 p q w h1 h2).mono fun _ _ ⟨a, b⟩ => ⟨a.trans (ret_bool (by simp [twins, h2])), b⟩
    | true =>
      by_cases z1 : p = Pf.zero
      · exact (twinsS_3 p q w h1 h2 (decide_eq_true z1)).mono fun _ _ ⟨a, b⟩ => ⟨a.trans (ret_bool (twins_zero1 z1).symm), b⟩
      · by_cases z2 : q = Pf.zero
        · exact (twinsS_4 p q w h1 h2 (decide_eq_false z1) (decide_eq_true z2)).mono fun _ _ ⟨a, b⟩ => ⟨a.trans (ret_bool (twins_zero2 z2).symm), b⟩
        · exact (twinsS_5 p q w h1 h2 (decide_eq_false z1) (decide_eq_false z2)).mono fun _ _ ⟨a, b⟩ => ⟨a.trans (ret_bool (twins_both h1 h2 z1 z2).symm), b⟩
theorem twinsSB (p q : Pf) (b : Bool) (h : twins p q = b) (w : World) : Calls Try.prog 70 #[.agg #[.int .i64 p.base.k, .int .i64 p.base.a, .int .i64 p.base.b, .int .i64 p.base.c, .int .i64 p.base.d, .int .i64 p.len], .agg #[.int .i64 q.base.k, .int .i64 q.base.a, .int .i64 q.base.b, .int .i64 q.base.c, .int .i64 q.base.d, .int .i64 q.len]] w fun e w' => e = .returned (.bool b) ∧ Below w.heap.size w w' := h ▸ twinsS p q w
end Go.Proofs.Ytdndanbalmoklaa

namespace Go.Proofs.Ytdndanbalmoklaa
set_option maxRecDepth 100000
open Go.RowKit

set_option maxHeartbeats 2000000 in
theorem moS_1n (frm to : Pf) (proto lo hi n : Int) (w : World) (hn : ¬ n = 0) : Calls Try.prog 15 #[.agg #[.int .i64 1, .int .i64 frm.base.k, .int .i64 frm.base.a, .int .i64 frm.base.b, .int .i64 frm.base.c, .int .i64 frm.base.d, .int .i64 frm.len, .int .i64 to.base.k, .int .i64 to.base.a, .int .i64 to.base.b, .int .i64 to.base.c, .int .i64 to.base.d, .int .i64 to.len, .int .i64 proto, .int .i64 lo, .int .i64 hi, .int .i64 n]] w fun e w' => e = .returned (.bool false) ∧ Below w.heap.size w w' := by
  have q0 := Lib.hid (K.new w (.cells #[.int .i64 1, .int .i64 frm.base.k, .int .i64 frm.base.a, .int .i64 frm.base.b, .int .i64 frm.base.c, .int .i64 frm.base.d, .int .i64 frm.len, .int .i64 to.base.k, .int .i64 to.base.a, .int .i64 to.base.b, .int .i64 to.base.c, .int .i64 to.base.d, .int .i64 to.len, .int .i64 proto, .int .i64 lo, .int .i64 hi, .int .i64 n] 33))
  go_enter Try.func15, Try.ntmps15
  go_wp2
  go_ret
  exact ⟨rfl, (Joins.below_alloc1 w _)⟩

set_option maxHeartbeats 2000000 in
theorem moS_1a (frm to : Pf) (proto lo hi : Int) (w : World) (h1 : frm.ok = false) : Calls Try.prog 15 #[.agg #[.int .i64 1, .int .i64 frm.base.k, .int .i64 frm.base.a, .int .i64 frm.base.b, .int .i64 frm.base.c, .int .i64 frm.base.d, .int .i64 frm.len, .int .i64 to.base.k, .int .i64 to.base.a, .int .i64 to.base.b, .int .i64 to.base.c, .int .i64 to.base.d, .int .i64 to.len, .int .i64 proto, .int .i64 lo, .int .i64 hi, .int .i64 0]] w fun e w' => e = .returned (.bool false) ∧ Below w.heap.size w w' := by
  have q0 := Lib.hid (K.new w (.cells #[.int .i64 1, .int .i64 frm.base.k, .int .i64 frm.base.a, .int .i64 frm.base.b, .int .i64 frm.base.c, .int .i64 frm.base.d, .int .i64 frm.len, .int .i64 to.base.k, .int .i64 to.base.a, .int .i64 to.base.b, .int .i64 to.base.c, .int .i64 to.base.d, .int .i64 to.len, .int .i64 proto, .int .i64 lo, .int .i64 hi, .int .i64 0] 33))
  have H1 := Lib.hid h1
  clear h1
  go_enter Try.func15, Try.ntmps15
  go_wp2_with fail
  refine Calls.mono (pfxSB frm false H1.out _) ?_
  rintro e w1 ⟨rfl, b1⟩
  have B1 := Lib.hid (bthen (Joins.below_alloc1 w _) b1)
  clear b1 
  go_wp2
  go_ret
  exact ⟨rfl, B1.out⟩

set_option maxHeartbeats 2000000 in
theorem moS_1b (frm to : Pf) (proto lo hi : Int) (w : World) (h1 : frm.ok = true) (h2 : to.ok = false) : Calls Try.prog 15 #[.agg #[.int .i64 1, .int .i64 frm.base.k, .int .i64 frm.base.a, .int .i64 frm.base.b, .int .i64 frm.base.c, .int .i64 frm.base.d, .int .i64 frm.len, .int .i64 to.base.k, .int .i64 to.base.a, .int .i64 to.base.b, .int .i64 to.base.c, .int .i64 to.base.d, .int .i64 to.len, .int .i64 proto, .int .i64 lo, .int .i64 hi, .int .i64 0]] w fun e w' => e = .returned (.bool false) ∧ Below w.heap.size w w' := by
  have q0 := Lib.hid (K.new w (.cells #[.int .i64 1, .int .i64 frm.base.k, .int .i64 frm.base.a, .int .i64 frm.base.b, .int .i64 frm.base.c, .int .i64 frm.base.d, .int .i64 frm.len, .int .i64 to.base.k, .int .i64 to.base.a, .int .i64 to.base.b, .int .i64 to.base.c, .int .i64 to.base.d, .int .i64 to.len, .int .i64 proto, .int .i64 lo, .int .i64 hi, .int .i64 0] 33))
  have H1 := Lib.hid h1
  have H2 := Lib.hid h2
  clear h1 h2
  go_enter Try.func15, Try.ntmps15
  go_wp2_with fail
  refine Calls.mono (pfxSB frm true H1.out _) ?_
  rintro e w1 ⟨rfl, b1⟩
  have B1 := Lib.hid (bthen (Joins.below_alloc1 w _) b1)
  have q1 := Lib.hid (K.below b1 q0.out)
  clear b1 
  have c7 := K.cell q1.out 7 _ rfl
  have c8 := K.cell q1.out 8 _ rfl
  have c9 := K.cell q1.out 9 _ rfl
  have c10 := K.cell q1.out 10 _ rfl
  have c11 := K.cell q1.out 11 _ rfl
  have c12 := K.cell q1.out 12 _ rfl
  go_wp2_with fail
  refine Calls.mono (pfxSB to false H2.out _) ?_
  rintro e w2 ⟨rfl, b2⟩
  have B2 := Lib.hid (bthen B1.out b2)
  clear b2 c7 c8 c9 c10 c11 c12
  go_wp2
  go_ret
  exact ⟨rfl, B2.out⟩

set_option maxHeartbeats 2000000 in
theorem moS_1c (frm to : Pf) (proto lo hi : Int) (w : World) (h1 : frm.ok = true) (h2 : to.ok = true) (hp : proto < -1) : Calls Try.prog 15 #[.agg #[.int .i64 1, .int .i64 frm.base.k, .int .i64 frm.base.a, .int .i64 frm.base.b, .int .i64 frm.base.c, .int .i64 frm.base.d, .int .i64 frm.len, .int .i64 to.base.k, .int .i64 to.base.a, .int .i64 to.base.b, .int .i64 to.base.c, .int .i64 to.base.d, .int .i64 to.len, .int .i64 proto, .int .i64 lo, .int .i64 hi, .int .i64 0]] w fun e w' => e = .returned (.bool false) ∧ Below w.heap.size w w' := by
  have q0 := Lib.hid (K.new w (.cells #[.int .i64 1, .int .i64 frm.base.k, .int .i64 frm.base.a, .int .i64 frm.base.b, .int .i64 frm.base.c, .int .i64 frm.base.d, .int .i64 frm.len, .int .i64 to.base.k, .int .i64 to.base.a, .int .i64 to.base.b, .int .i64 to.base.c, .int .i64 to.base.d, .int .i64 to.len, .int .i64 proto, .int .i64 lo, .int .i64 hi, .int .i64 0] 33))
  have H1 := Lib.hid h1
  have H2 := Lib.hid h2
  clear h1 h2
  go_enter Try.func15, Try.ntmps15
  go_wp2_with fail
  refine Calls.mono (pfxSB frm true H1.out _) ?_
  rintro e w1 ⟨rfl, b1⟩
  have B1 := Lib.hid (bthen (Joins.below_alloc1 w _) b1)
  have q1 := Lib.hid (K.below b1 q0.out)
  clear b1 
  have c7 := K.cell q1.out 7 _ rfl
  have c8 := K.cell q1.out 8 _ rfl
  have c9 := K.cell q1.out 9 _ rfl
  have c10 := K.cell q1.out 10 _ rfl
  have c11 := K.cell q1.out 11 _ rfl
  have c12 := K.cell q1.out 12 _ rfl
  go_wp2_with fail
  refine Calls.mono (pfxSB to true H2.out _) ?_
  rintro e w2 ⟨rfl, b2⟩
  have B2 := Lib.hid (bthen B1.out b2)
  have q2 := Lib.hid (K.below b2 q1.out)
  clear b2 c7 c8 c9 c10 c11 c12
  have c13 := K.cell q2.out 13 _ rfl
  go_wp2
  go_ret
  exact ⟨rfl, B2.out⟩

set_option maxHeartbeats 2000000 in
theorem moS_1d (frm to : Pf) (proto lo hi : Int) (w : World) (h1 : frm.ok = true) (h2 : to.ok = true) (hp : -1 ≤ proto) (hq : 255 < proto) : Calls Try.prog 15 #[.agg #[.int .i64 1, .int .i64 frm.base.k, .int .i64 frm.base.a, .int .i64 frm.base.b, .int .i64 frm.base.c, .int .i64 frm.base.d, .int .i64 frm.len, .int .i64 to.base.k, .int .i64 to.base.a, .int .i64 to.base.b, .int .i64 to.base.c, .int .i64 to.base.d, .int .i64 to.len, .int .i64 proto, .int .i64 lo, .int .i64 hi, .int .i64 0]] w fun e w' => e = .returned (.bool false) ∧ Below w.heap.size w w' := by
  have q0 := Lib.hid (K.new w (.cells #[.int .i64 1, .int .i64 frm.base.k, .int .i64 frm.base.a, .int .i64 frm.base.b, .int .i64 frm.base.c, .int .i64 frm.base.d, .int .i64 frm.len, .int .i64 to.base.k, .int .i64 to.base.a, .int .i64 to.base.b, .int .i64 to.base.c, .int .i64 to.base.d, .int .i64 to.len, .int .i64 proto, .int .i64 lo, .int .i64 hi, .int .i64 0] 33))
  have H1 := Lib.hid h1
  have H2 := Lib.hid h2
  clear h1 h2
  go_enter Try.func15, Try.ntmps15
  go_wp2_with fail
  refine Calls.mono (pfxSB frm true H1.out _) ?_
  rintro e w1 ⟨rfl, b1⟩
  have B1 := Lib.hid (bthen (Joins.below_alloc1 w _) b1)
  have q1 := Lib.hid (K.below b1 q0.out)
  clear b1 
  have c7 := K.cell q1.out 7 _ rfl
  have c8 := K.cell q1.out 8 _ rfl
  have c9 := K.cell q1.out 9 _ rfl
  have c10 := K.cell q1.out 10 _ rfl
  have c11 := K.cell q1.out 11 _ rfl
  have c12 := K.cell q1.out 12 _ rfl
  go_wp2_with fail
  refine Calls.mono (pfxSB to true H2.out _) ?_
  rintro e w2 ⟨rfl, b2⟩
  have B2 := Lib.hid (bthen B1.out b2)
  have q2 := Lib.hid (K.below b2 q1.out)
  clear b2 c7 c8 c9 c10 c11 c12
  have c13 := K.cell q2.out 13 _ rfl
  go_wp2
  go_ret
  exact ⟨rfl, B2.out⟩

set_option maxHeartbeats 2000000 in
theorem moS_1e (frm to : Pf) (proto lo hi : Int) (b : Bool) (w : World) (h1 : frm.ok = true) (h2 : to.ok = true) (hp : -1 ≤ proto) (hq : proto ≤ 255) (h3 : portsB lo hi = b) : Calls Try.prog 15 #[.agg #[.int .i64 1, .int .i64 frm.base.k, .int .i64 frm.base.a, .int .i64 frm.base.b, .int .i64 frm.base.c, .int .i64 frm.base.d, .int .i64 frm.len, .int .i64 to.base.k, .int .i64 to.base.a, .int .i64 to.base.b, .int .i64 to.base.c, .int .i64 to.base.d, .int .i64 to.len, .int .i64 proto, .int .i64 lo, .int .i64 hi, .int .i64 0]] w fun e w' => e = .returned (.bool b) ∧ Below w.heap.size w w' := by
  have q0 := Lib.hid (K.new w (.cells #[.int .i64 1, .int .i64 frm.base.k, .int .i64 frm.base.a, .int .i64 frm.base.b, .int .i64 frm.base.c, .int .i64 frm.base.d, .int .i64 frm.len, .int .i64 to.base.k, .int .i64 to.base.a, .int .i64 to.base.b, .int .i64 to.base.c, .int .i64 to.base.d, .int .i64 to.len, .int .i64 proto, .int .i64 lo, .int .i64 hi, .int .i64 0] 33))
  have H1 := Lib.hid h1
  have H2 := Lib.hid h2
  have H3 := Lib.hid h3
  clear h1 h2 h3
  go_enter Try.func15, Try.ntmps15
  go_wp2_with fail
  refine Calls.mono (pfxSB frm true H1.out _) ?_
  rintro e w1 ⟨rfl, b1⟩
  have B1 := Lib.hid (bthen (Joins.below_alloc1 w _) b1)
  have q1 := Lib.hid (K.below b1 q0.out)
  clear b1 
  have c7 := K.cell q1.out 7 _ rfl
  have c8 := K.cell q1.out 8 _ rfl
  have c9 := K.cell q1.out 9 _ rfl
  have c10 := K.cell q1.out 10 _ rfl
  have c11 := K.cell q1.out 11 _ rfl
  have c12 := K.cell q1.out 12 _ rfl
  go_wp2_with fail
  refine Calls.mono (pfxSB to true H2.out _) ?_
  rintro e w2 ⟨rfl, b2⟩
  have B2 := Lib.hid (bthen B1.out b2)
  have q2 := Lib.hid (K.below b2 q1.out)
  clear b2 c7 c8 c9 c10 c11 c12
  have c13 := K.cell q2.out 13 _ rfl
  have c14 := K.cell q2.out 14 _ rfl
  have c15 := K.cell q2.out 15 _ rfl
  go_wp2_with fail
  refine Calls.mono (rangeSB lo hi b H3.out _) ?_
  rintro e w3 ⟨rfl, b3⟩
  have B3 := Lib.hid (bthen B2.out b3)
  clear b3 c13 c14 c15
  go_wp2
  go_ret
  exact ⟨rfl, B3.out⟩
end Go.Proofs.Ytdndanbalmoklaa

namespace Go.Proofs.Ytdndanbalmoklaa
set_option maxRecDepth 100000
open Go.RowKit

set_option maxHeartbeats 2000000 in
theorem moS_5p (frm to : Pf) (proto lo hi n : Int) (w : World) (hp : ¬ proto = 0) : Calls Try.prog 15 #[.agg #[.int .i64 5, .int .i64 frm.base.k, .int .i64 frm.base.a, .int .i64 frm.base.b, .int .i64 frm.base.c, .int .i64 frm.base.d, .int .i64 frm.len, .int .i64 to.base.k, .int .i64 to.base.a, .int .i64 to.base.b, .int .i64 to.base.c, .int .i64 to.base.d, .int .i64 to.len, .int .i64 proto, .int .i64 lo, .int .i64 hi, .int .i64 n]] w fun e w' => e = .returned (.bool false) ∧ Below w.heap.size w w' := by
  have q0 := Lib.hid (K.new w (.cells #[.int .i64 5, .int .i64 frm.base.k, .int .i64 frm.base.a, .int .i64 frm.base.b, .int .i64 frm.base.c, .int .i64 frm.base.d, .int .i64 frm.len, .int .i64 to.base.k, .int .i64 to.base.a, .int .i64 to.base.b, .int .i64 to.base.c, .int .i64 to.base.d, .int .i64 to.len, .int .i64 proto, .int .i64 lo, .int .i64 hi, .int .i64 n] 33))
  go_enter Try.func15, Try.ntmps15
  go_wp2
  go_ret
  exact ⟨rfl, (Joins.below_alloc1 w _)⟩

set_option maxHeartbeats 2000000 in
theorem moS_5l (frm to : Pf) (lo hi n : Int) (w : World) (hp : ¬ lo = 0) : Calls Try.prog 15 #[.agg #[.int .i64 5, .int .i64 frm.base.k, .int .i64 frm.base.a, .int .i64 frm.base.b, .int .i64 frm.base.c, .int .i64 frm.base.d, .int .i64 frm.len, .int .i64 to.base.k, .int .i64 to.base.a, .int .i64 to.base.b, .int .i64 to.base.c, .int .i64 to.base.d, .int .i64 to.len, .int .i64 0, .int .i64 lo, .int .i64 hi, .int .i64 n]] w fun e w' => e = .returned (.bool false) ∧ Below w.heap.size w w' := by
  have q0 := Lib.hid (K.new w (.cells #[.int .i64 5, .int .i64 frm.base.k, .int .i64 frm.base.a, .int .i64 frm.base.b, .int .i64 frm.base.c, .int .i64 frm.base.d, .int .i64 frm.len, .int .i64 to.base.k, .int .i64 to.base.a, .int .i64 to.base.b, .int .i64 to.base.c, .int .i64 to.base.d, .int .i64 to.len, .int .i64 0, .int .i64 lo, .int .i64 hi, .int .i64 n] 33))
  go_enter Try.func15, Try.ntmps15
  go_wp2
  go_ret
  exact ⟨rfl, (Joins.below_alloc1 w _)⟩

set_option maxHeartbeats 2000000 in
theorem moS_5h (frm to : Pf) (hi n : Int) (w : World) (hp : ¬ hi = 0) : Calls Try.prog 15 #[.agg #[.int .i64 5, .int .i64 frm.base.k, .int .i64 frm.base.a, .int .i64 frm.base.b, .int .i64 frm.base.c, .int .i64 frm.base.d, .int .i64 frm.len, .int .i64 to.base.k, .int .i64 to.base.a, .int .i64 to.base.b, .int .i64 to.base.c, .int .i64 to.base.d, .int .i64 to.len, .int .i64 0, .int .i64 0, .int .i64 hi, .int .i64 n]] w fun e w' => e = .returned (.bool false) ∧ Below w.heap.size w w' := by
  have q0 := Lib.hid (K.new w (.cells #[.int .i64 5, .int .i64 frm.base.k, .int .i64 frm.base.a, .int .i64 frm.base.b, .int .i64 frm.base.c, .int .i64 frm.base.d, .int .i64 frm.len, .int .i64 to.base.k, .int .i64 to.base.a, .int .i64 to.base.b, .int .i64 to.base.c, .int .i64 to.base.d, .int .i64 to.len, .int .i64 0, .int .i64 0, .int .i64 hi, .int .i64 n] 33))
  go_enter Try.func15, Try.ntmps15
  go_wp2
  go_ret
  exact ⟨rfl, (Joins.below_alloc1 w _)⟩

set_option maxHeartbeats 2000000 in
theorem moS_5a (frm to : Pf) (n : Int) (w : World) (h1 : decide (frm = Pf.zero) = false) : Calls Try.prog 15 #[.agg #[.int .i64 5, .int .i64 frm.base.k, .int .i64 frm.base.a, .int .i64 frm.base.b, .int .i64 frm.base.c, .int .i64 frm.base.d, .int .i64 frm.len, .int .i64 to.base.k, .int .i64 to.base.a, .int .i64 to.base.b, .int .i64 to.base.c, .int .i64 to.base.d, .int .i64 to.len, .int .i64 0, .int .i64 0, .int .i64 0, .int .i64 n]] w fun e w' => e = .returned (.bool false) ∧ Below w.heap.size w w' := by
  have q0 := Lib.hid (K.new w (.cells #[.int .i64 5, .int .i64 frm.base.k, .int .i64 frm.base.a, .int .i64 frm.base.b, .int .i64 frm.base.c, .int .i64 frm.base.d, .int .i64 frm.len, .int .i64 to.base.k, .int .i64 to.base.a, .int .i64 to.base.b, .int .i64 to.base.c, .int .i64 to.base.d, .int .i64 to.len, .int .i64 0, .int .i64 0, .int .i64 0, .int .i64 n] 33))
  have H1 := Lib.hid h1
  clear h1
  go_enter Try.func15, Try.ntmps15
  go_wp2_with fail
  refine Calls.mono (anySB frm false H1.out _) ?_
  rintro e w1 ⟨rfl, b1⟩
  have B1 := Lib.hid (bthen (Joins.below_alloc1 w _) b1)
  have q1 := Lib.hid (K.below b1 q0.out)
  clear b1 
  have c0 := K.cell q1.out 0 _ rfl
  go_wp2
  go_ret
  exact ⟨rfl, B1.out⟩

set_option maxHeartbeats 2000000 in
theorem moS_5b (frm to : Pf) (n : Int) (w : World) (h1 : decide (frm = Pf.zero) = true) (h2 : decide (to = Pf.zero) = false) : Calls Try.prog 15 #[.agg #[.int .i64 5, .int .i64 frm.base.k, .int .i64 frm.base.a, .int .i64 frm.base.b, .int .i64 frm.base.c, .int .i64 frm.base.d, .int .i64 frm.len, .int .i64 to.base.k, .int .i64 to.base.a, .int .i64 to.base.b, .int .i64 to.base.c, .int .i64 to.base.d, .int .i64 to.len, .int .i64 0, .int .i64 0, .int .i64 0, .int .i64 n]] w fun e w' => e = .returned (.bool false) ∧ Below w.heap.size w w' := by
  have q0 := Lib.hid (K.new w (.cells #[.int .i64 5, .int .i64 frm.base.k, .int .i64 frm.base.a, .int .i64 frm.base.b, .int .i64 frm.base.c, .int .i64 frm.base.d, .int .i64 frm.len, .int .i64 to.base.k, .int .i64 to.base.a, .int .i64 to.base.b, .int .i64 to.base.c, .int .i64 to.base.d, .int .i64 to.len, .int .i64 0, .int .i64 0, .int .i64 0, .int .i64 n] 33))
  have H1 := Lib.hid h1
  have H2 := Lib.hid h2
  clear h1 h2
  go_enter Try.func15, Try.ntmps15
  go_wp2_with fail
  refine Calls.mono (anySB frm true H1.out _) ?_
  rintro e w1 ⟨rfl, b1⟩
  have B1 := Lib.hid (bthen (Joins.below_alloc1 w _) b1)
  have q1 := Lib.hid (K.below b1 q0.out)
  clear b1 
  have c7 := K.cell q1.out 7 _ rfl
  have c8 := K.cell q1.out 8 _ rfl
  have c9 := K.cell q1.out 9 _ rfl
  have c10 := K.cell q1.out 10 _ rfl
  have c11 := K.cell q1.out 11 _ rfl
  have c12 := K.cell q1.out 12 _ rfl
  go_wp2_with fail
  refine Calls.mono (anySB to false H2.out _) ?_
  rintro e w2 ⟨rfl, b2⟩
  have B2 := Lib.hid (bthen B1.out b2)
  have q2 := Lib.hid (K.below b2 q1.out)
  clear b2 c7 c8 c9 c10 c11 c12
  have c0 := K.cell q2.out 0 _ rfl
  go_wp2
  go_ret
  exact ⟨rfl, B2.out⟩

set_option maxHeartbeats 2000000 in
theorem moS_7p (frm to : Pf) (proto lo hi n : Int) (w : World) (hp : ¬ proto = 0) : Calls Try.prog 15 #[.agg #[.int .i64 7, .int .i64 frm.base.k, .int .i64 frm.base.a, .int .i64 frm.base.b, .int .i64 frm.base.c, .int .i64 frm.base.d, .int .i64 frm.len, .int .i64 to.base.k, .int .i64 to.base.a, .int .i64 to.base.b, .int .i64 to.base.c, .int .i64 to.base.d, .int .i64 to.len, .int .i64 proto, .int .i64 lo, .int .i64 hi, .int .i64 n]] w fun e w' => e = .returned (.bool false) ∧ Below w.heap.size w w' := by
  have q0 := Lib.hid (K.new w (.cells #[.int .i64 7, .int .i64 frm.base.k, .int .i64 frm.base.a, .int .i64 frm.base.b, .int .i64 frm.base.c, .int .i64 frm.base.d, .int .i64 frm.len, .int .i64 to.base.k, .int .i64 to.base.a, .int .i64 to.base.b, .int .i64 to.base.c, .int .i64 to.base.d, .int .i64 to.len, .int .i64 proto, .int .i64 lo, .int .i64 hi, .int .i64 n] 33))
  go_enter Try.func15, Try.ntmps15
  go_wp2
  go_ret
  exact ⟨rfl, (Joins.below_alloc1 w _)⟩

set_option maxHeartbeats 2000000 in
theorem moS_7l (frm to : Pf) (lo hi n : Int) (w : World) (hp : ¬ lo = 0) : Calls Try.prog 15 #[.agg #[.int .i64 7, .int .i64 frm.base.k, .int .i64 frm.base.a, .int .i64 frm.base.b, .int .i64 frm.base.c, .int .i64 frm.base.d, .int .i64 frm.len, .int .i64 to.base.k, .int .i64 to.base.a, .int .i64 to.base.b, .int .i64 to.base.c, .int .i64 to.base.d, .int .i64 to.len, .int .i64 0, .int .i64 lo, .int .i64 hi, .int .i64 n]] w fun e w' => e = .returned (.bool false) ∧ Below w.heap.size w w' := by
  have q0 := Lib.hid (K.new w (.cells #[.int .i64 7, .int .i64 frm.base.k, .int .i64 frm.base.a, .int .i64 frm.base.b, .int .i64 frm.base.c, .int .i64 frm.base.d, .int .i64 frm.len, .int .i64 to.base.k, .int .i64 to.base.a, .int .i64 to.base.b, .int .i64 to.base.c, .int .i64 to.base.d, .int .i64 to.len, .int .i64 0, .int .i64 lo, .int .i64 hi, .int .i64 n] 33))
  go_enter Try.func15, Try.ntmps15
  go_wp2
  go_ret
  exact ⟨rfl, (Joins.below_alloc1 w _)⟩

set_option maxHeartbeats 2000000 in
theorem moS_7h (frm to : Pf) (hi n : Int) (w : World) (hp : ¬ hi = 0) : Calls Try.prog 15 #[.agg #[.int .i64 7, .int .i64 frm.base.k, .int .i64 frm.base.a, .int .i64 frm.base.b, .int .i64 frm.base.c, .int .i64 frm.base.d, .int .i64 frm.len, .int .i64 to.base.k, .int .i64 to.base.a, .int .i64 to.base.b, .int .i64 to.base.c, .int .i64 to.base.d, .int .i64 to.len, .int .i64 0, .int .i64 0, .int .i64 hi, .int .i64 n]] w fun e w' => e = .returned (.bool false) ∧ Below w.heap.size w w' := by
  have q0 := Lib.hid (K.new w (.cells #[.int .i64 7, .int .i64 frm.base.k, .int .i64 frm.base.a, .int .i64 frm.base.b, .int .i64 frm.base.c, .int .i64 frm.base.d, .int .i64 frm.len, .int .i64 to.base.k, .int .i64 to.base.a, .int .i64 to.base.b, .int .i64 to.base.c, .int .i64 to.base.d, .int .i64 to.len, .int .i64 0, .int .i64 0, .int .i64 hi, .int .i64 n] 33))
  go_enter Try.func15, Try.ntmps15
  go_wp2
  go_ret
  exact ⟨rfl, (Joins.below_alloc1 w _)⟩

set_option maxHeartbeats 2000000 in
theorem moS_7a (frm to : Pf) (n : Int) (w : World) (h1 : decide (frm = Pf.zero) = false) : Calls Try.prog 15 #[.agg #[.int .i64 7, .int .i64 frm.base.k, .int .i64 frm.base.a, .int .i64 frm.base.b, .int .i64 frm.base.c, .int .i64 frm.base.d, .int .i64 frm.len, .int .i64 to.base.k, .int .i64 to.base.a, .int .i64 to.base.b, .int .i64 to.base.c, .int .i64 to.base.d, .int .i64 to.len, .int .i64 0, .int .i64 0, .int .i64 0, .int .i64 n]] w fun e w' => e = .returned (.bool false) ∧ Below w.heap.size w w' := by
  have q0 := Lib.hid (K.new w (.cells #[.int .i64 7, .int .i64 frm.base.k, .int .i64 frm.base.a, .int .i64 frm.base.b, .int .i64 frm.base.c, .int .i64 frm.base.d, .int .i64 frm.len, .int .i64 to.base.k, .int .i64 to.base.a, .int .i64 to.base.b, .int .i64 to.base.c, .int .i64 to.base.d, .int .i64 to.len, .int .i64 0, .int .i64 0, .int .i64 0, .int .i64 n] 33))
  have H1 := Lib.hid h1
  clear h1
  go_enter Try.func15, Try.ntmps15
  go_wp2_with fail
  refine Calls.mono (anySB frm false H1.out _) ?_
  rintro e w1 ⟨rfl, b1⟩
  have B1 := Lib.hid (bthen (Joins.below_alloc1 w _) b1)
  have q1 := Lib.hid (K.below b1 q0.out)
  clear b1 
  have c0 := K.cell q1.out 0 _ rfl
  go_wp2
  go_ret
  exact ⟨rfl, B1.out⟩

set_option maxHeartbeats 2000000 in
theorem moS_7b (frm to : Pf) (n : Int) (w : World) (h1 : decide (frm = Pf.zero) = true) (h2 : decide (to = Pf.zero) = false) : Calls Try.prog 15 #[.agg #[.int .i64 7, .int .i64 frm.base.k, .int .i64 frm.base.a, .int .i64 frm.base.b, .int .i64 frm.base.c, .int .i64 frm.base.d, .int .i64 frm.len, .int .i64 to.base.k, .int .i64 to.base.a, .int .i64 to.base.b, .int .i64 to.base.c, .int .i64 to.base.d, .int .i64 to.len, .int .i64 0, .int .i64 0, .int .i64 0, .int .i64 n]] w fun e w' => e = .returned (.bool false) ∧ Below w.heap.size w w' := by
  have q0 := Lib.hid (K.new w (.cells #[.int .i64 7, .int .i64 frm.base.k, .int .i64 frm.base.a, .int .i64 frm.base.b, .int .i64 frm.base.c, .int .i64 frm.base.d, .int .i64 frm.len, .int .i64 to.base.k, .int .i64 to.base.a, .int .i64 to.base.b, .int .i64 to.base.c, .int .i64 to.base.d, .int .i64 to.len, .int .i64 0, .int .i64 0, .int .i64 0, .int .i64 n] 33))
  have H1 := Lib.hid h1
  have H2 := Lib.hid h2
  clear h1 h2
  go_enter Try.func15, Try.ntmps15
  go_wp2_with fail
  refine Calls.mono (anySB frm true H1.out _) ?_
  rintro e w1 ⟨rfl, b1⟩
  have B1 := Lib.hid (bthen (Joins.below_alloc1 w _) b1)
  have q1 := Lib.hid (K.below b1 q0.out)
  clear b1 
  have c7 := K.cell q1.out 7 _ rfl
  have c8 := K.cell q1.out 8 _ rfl
  have c9 := K.cell q1.out 9 _ rfl
  have c10 := K.cell q1.out 10 _ rfl
  have c11 := K.cell q1.out 11 _ rfl
  have c12 := K.cell q1.out 12 _ rfl
  go_wp2_with fail
  refine Calls.mono (anySB to false H2.out _) ?_
  rintro e w2 ⟨rfl, b2⟩
  have B2 := Lib.hid (bthen B1.out b2)
  have q2 := Lib.hid (K.below b2 q1.out)
  clear b2 c7 c8 c9 c10 c11 c12
  have c0 := K.cell q2.out 0 _ rfl
  go_wp2
  go_ret
  exact ⟨rfl, B2.out⟩

set_option maxHeartbeats 2000000 in
theorem moS_5c (frm to : Pf) (n : Int) (b : Bool) (w : World) (h1 : decide (frm = Pf.zero) = true) (h2 : decide (to = Pf.zero) = true) (h3 : upTo n 63 = b) : Calls Try.prog 15 #[.agg #[.int .i64 5, .int .i64 frm.base.k, .int .i64 frm.base.a, .int .i64 frm.base.b, .int .i64 frm.base.c, .int .i64 frm.base.d, .int .i64 frm.len, .int .i64 to.base.k, .int .i64 to.base.a, .int .i64 to.base.b, .int .i64 to.base.c, .int .i64 to.base.d, .int .i64 to.len, .int .i64 0, .int .i64 0, .int .i64 0, .int .i64 n]] w fun e w' => e = .returned (.bool b) ∧ Below w.heap.size w w' := by
  have q0 := Lib.hid (K.new w (.cells #[.int .i64 5, .int .i64 frm.base.k, .int .i64 frm.base.a, .int .i64 frm.base.b, .int .i64 frm.base.c, .int .i64 frm.base.d, .int .i64 frm.len, .int .i64 to.base.k, .int .i64 to.base.a, .int .i64 to.base.b, .int .i64 to.base.c, .int .i64 to.base.d, .int .i64 to.len, .int .i64 0, .int .i64 0, .int .i64 0, .int .i64 n] 33))
  have H1 := Lib.hid h1
  have H2 := Lib.hid h2
  have H3 := Lib.hid h3
  clear h1 h2 h3
  go_enter Try.func15, Try.ntmps15
  go_wp2_with fail
  refine Calls.mono (anySB frm true H1.out _) ?_
  rintro e w1 ⟨rfl, b1⟩
  have B1 := Lib.hid (bthen (Joins.below_alloc1 w _) b1)
  have q1 := Lib.hid (K.below b1 q0.out)
  clear b1 
  have c7 := K.cell q1.out 7 _ rfl
  have c8 := K.cell q1.out 8 _ rfl
  have c9 := K.cell q1.out 9 _ rfl
  have c10 := K.cell q1.out 10 _ rfl
  have c11 := K.cell q1.out 11 _ rfl
  have c12 := K.cell q1.out 12 _ rfl
  go_wp2_with fail
  refine Calls.mono (anySB to true H2.out _) ?_
  rintro e w2 ⟨rfl, b2⟩
  have B2 := Lib.hid (bthen B1.out b2)
  have q2 := Lib.hid (K.below b2 q1.out)
  clear b2 c7 c8 c9 c10 c11 c12
  have c0 := K.cell q2.out 0 _ rfl
  have c16 := K.cell q2.out 16 _ rfl
  go_wp2_with fail
  refine Calls.mono (inMoB n 63 b H3.out _) ?_
  rintro e w3 ⟨rfl, b3⟩
  have B3 := Lib.hid (bthen B2.out b3)
  clear b3 c0 c16
  go_wp2
  go_ret
  exact ⟨rfl, B3.out⟩

set_option maxHeartbeats 2000000 in
theorem moS_7c (frm to : Pf) (n : Int) (w : World) (h1 : decide (frm = Pf.zero) = true) (h2 : decide (to = Pf.zero) = true) : Calls Try.prog 15 #[.agg #[.int .i64 7, .int .i64 frm.base.k, .int .i64 frm.base.a, .int .i64 frm.base.b, .int .i64 frm.base.c, .int .i64 frm.base.d, .int .i64 frm.len, .int .i64 to.base.k, .int .i64 to.base.a, .int .i64 to.base.b, .int .i64 to.base.c, .int .i64 to.base.d, .int .i64 to.len, .int .i64 0, .int .i64 0, .int .i64 0, .int .i64 n]] w fun e w' => e = .returned (.bool (btw 1 n 4)) ∧ Below w.heap.size w w' := by
  have q0 := Lib.hid (K.new w (.cells #[.int .i64 7, .int .i64 frm.base.k, .int .i64 frm.base.a, .int .i64 frm.base.b, .int .i64 frm.base.c, .int .i64 frm.base.d, .int .i64 frm.len, .int .i64 to.base.k, .int .i64 to.base.a, .int .i64 to.base.b, .int .i64 to.base.c, .int .i64 to.base.d, .int .i64 to.len, .int .i64 0, .int .i64 0, .int .i64 0, .int .i64 n] 33))
  have H1 := Lib.hid h1
  have H2 := Lib.hid h2
  clear h1 h2
  go_enter Try.func15, Try.ntmps15
  go_wp2_with fail
  refine Calls.mono (anySB frm true H1.out _) ?_
  rintro e w1 ⟨rfl, b1⟩
  have B1 := Lib.hid (bthen (Joins.below_alloc1 w _) b1)
  have q1 := Lib.hid (K.below b1 q0.out)
  clear b1 
  have c7 := K.cell q1.out 7 _ rfl
  have c8 := K.cell q1.out 8 _ rfl
  have c9 := K.cell q1.out 9 _ rfl
  have c10 := K.cell q1.out 10 _ rfl
  have c11 := K.cell q1.out 11 _ rfl
  have c12 := K.cell q1.out 12 _ rfl
  go_wp2_with fail
  refine Calls.mono (anySB to true H2.out _) ?_
  rintro e w2 ⟨rfl, b2⟩
  have B2 := Lib.hid (bthen B1.out b2)
  have q2 := Lib.hid (K.below b2 q1.out)
  clear b2 c7 c8 c9 c10 c11 c12
  have c0 := K.cell q2.out 0 _ rfl
  have c16 := K.cell q2.out 16 _ rfl
  go_wp2
  all_goals (go_ret; exact ⟨ret_bool (by first | (simp [btw, *]; done) | (simp [btw, *]; omega)), B2.out⟩)

set_option maxHeartbeats 2000000 in
theorem moS_0a (frm to : Pf) (kind proto lo hi n : Int) (w : World) (hk : kind < 1) : Calls Try.prog 15 #[.agg #[.int .i64 kind, .int .i64 frm.base.k, .int .i64 frm.base.a, .int .i64 frm.base.b, .int .i64 frm.base.c, .int .i64 frm.base.d, .int .i64 frm.len, .int .i64 to.base.k, .int .i64 to.base.a, .int .i64 to.base.b, .int .i64 to.base.c, .int .i64 to.base.d, .int .i64 to.len, .int .i64 proto, .int .i64 lo, .int .i64 hi, .int .i64 n]] w fun e w' => e = .returned (.bool false) ∧ Below w.heap.size w w' := by
  have q0 := Lib.hid (K.new w (.cells #[.int .i64 kind, .int .i64 frm.base.k, .int .i64 frm.base.a, .int .i64 frm.base.b, .int .i64 frm.base.c, .int .i64 frm.base.d, .int .i64 frm.len, .int .i64 to.base.k, .int .i64 to.base.a, .int .i64 to.base.b, .int .i64 to.base.c, .int .i64 to.base.d, .int .i64 to.len, .int .i64 proto, .int .i64 lo, .int .i64 hi, .int .i64 n] 33))
  go_enter Try.func15, Try.ntmps15
  go_wp2
  go_ret
  exact ⟨rfl, (Joins.below_alloc1 w _)⟩

set_option maxHeartbeats 2000000 in
theorem moS_0b (frm to : Pf) (kind proto lo hi n : Int) (w : World) (hk : 7 < kind) : Calls Try.prog 15 #[.agg #[.int .i64 kind, .int .i64 frm.base.k, .int .i64 frm.base.a, .int .i64 frm.base.b, .int .i64 frm.base.c, .int .i64 frm.base.d, .int .i64 frm.len, .int .i64 to.base.k, .int .i64 to.base.a, .int .i64 to.base.b, .int .i64 to.base.c, .int .i64 to.base.d, .int .i64 to.len, .int .i64 proto, .int .i64 lo, .int .i64 hi, .int .i64 n]] w fun e w' => e = .returned (.bool false) ∧ Below w.heap.size w w' := by
  have q0 := Lib.hid (K.new w (.cells #[.int .i64 kind, .int .i64 frm.base.k, .int .i64 frm.base.a, .int .i64 frm.base.b, .int .i64 frm.base.c, .int .i64 frm.base.d, .int .i64 frm.len, .int .i64 to.base.k, .int .i64 to.base.a, .int .i64 to.base.b, .int .i64 to.base.c, .int .i64 to.base.d, .int .i64 to.len, .int .i64 proto, .int .i64 lo, .int .i64 hi, .int .i64 n] 33))
  go_enter Try.func15, Try.ntmps15
  go_wp2
  go_ret
  exact ⟨rfl, (Joins.below_alloc1 w _)⟩
end Go.Proofs.Ytdndanbalmoklaa

namespace Go.Proofs.Ytdndanbalmoklaa
set_option maxRecDepth 100000
open Go.RowKit

set_option maxHeartbeats 2000000 in
theorem moS_2p (frm to : Pf) (proto lo hi n : Int) (w : World) (hp : ¬ proto = 0) : Calls Try.prog 15 #[.agg #[.int .i64 2, .int .i64 frm.base.k, .int .i64 frm.base.a, .int .i64 frm.base.b, .int .i64 frm.base.c, .int .i64 frm.base.d, .int .i64 frm.len, .int .i64 to.base.k, .int .i64 to.base.a, .int .i64 to.base.b, .int .i64 to.base.c, .int .i64 to.base.d, .int .i64 to.len, .int .i64 proto, .int .i64 lo, .int .i64 hi, .int .i64 n]] w fun e w' => e = .returned (.bool false) ∧ Below w.heap.size w w' := by
  have q0 := Lib.hid (K.new w (.cells #[.int .i64 2, .int .i64 frm.base.k, .int .i64 frm.base.a, .int .i64 frm.base.b, .int .i64 frm.base.c, .int .i64 frm.base.d, .int .i64 frm.len, .int .i64 to.base.k, .int .i64 to.base.a, .int .i64 to.base.b, .int .i64 to.base.c, .int .i64 to.base.d, .int .i64 to.len, .int .i64 proto, .int .i64 lo, .int .i64 hi, .int .i64 n] 33))
  go_enter Try.func15, Try.ntmps15
  go_wp2
  go_ret
  exact ⟨rfl, (Joins.below_alloc1 w _)⟩

set_option maxHeartbeats 2000000 in
theorem moS_2l (frm to : Pf) (lo hi n : Int) (w : World) (hp : ¬ lo = 0) : Calls Try.prog 15 #[.agg #[.int .i64 2, .int .i64 frm.base.k, .int .i64 frm.base.a, .int .i64 frm.base.b, .int .i64 frm.base.c, .int .i64 frm.base.d, .int .i64 frm.len, .int .i64 to.base.k, .int .i64 to.base.a, .int .i64 to.base.b, .int .i64 to.base.c, .int .i64 to.base.d, .int .i64 to.len, .int .i64 0, .int .i64 lo, .int .i64 hi, .int .i64 n]] w fun e w' => e = .returned (.bool false) ∧ Below w.heap.size w w' := by
  have q0 := Lib.hid (K.new w (.cells #[.int .i64 2, .int .i64 frm.base.k, .int .i64 frm.base.a, .int .i64 frm.base.b, .int .i64 frm.base.c, .int .i64 frm.base.d, .int .i64 frm.len, .int .i64 to.base.k, .int .i64 to.base.a, .int .i64 to.base.b, .int .i64 to.base.c, .int .i64 to.base.d, .int .i64 to.len, .int .i64 0, .int .i64 lo, .int .i64 hi, .int .i64 n] 33))
  go_enter Try.func15, Try.ntmps15
  go_wp2
  go_ret
  exact ⟨rfl, (Joins.below_alloc1 w _)⟩

set_option maxHeartbeats 2000000 in
theorem moS_2h (frm to : Pf) (hi n : Int) (w : World) (hp : ¬ hi = 0) : Calls Try.prog 15 #[.agg #[.int .i64 2, .int .i64 frm.base.k, .int .i64 frm.base.a, .int .i64 frm.base.b, .int .i64 frm.base.c, .int .i64 frm.base.d, .int .i64 frm.len, .int .i64 to.base.k, .int .i64 to.base.a, .int .i64 to.base.b, .int .i64 to.base.c, .int .i64 to.base.d, .int .i64 to.len, .int .i64 0, .int .i64 0, .int .i64 hi, .int .i64 n]] w fun e w' => e = .returned (.bool false) ∧ Below w.heap.size w w' := by
  have q0 := Lib.hid (K.new w (.cells #[.int .i64 2, .int .i64 frm.base.k, .int .i64 frm.base.a, .int .i64 frm.base.b, .int .i64 frm.base.c, .int .i64 frm.base.d, .int .i64 frm.len, .int .i64 to.base.k, .int .i64 to.base.a, .int .i64 to.base.b, .int .i64 to.base.c, .int .i64 to.base.d, .int .i64 to.len, .int .i64 0, .int .i64 0, .int .i64 hi, .int .i64 n] 33))
  go_enter Try.func15, Try.ntmps15
  go_wp2
  go_ret
  exact ⟨rfl, (Joins.below_alloc1 w _)⟩

set_option maxHeartbeats 2000000 in
theorem moS_2n (frm to : Pf) (n : Int) (w : World) (hp : ¬ n = 0) : Calls Try.prog 15 #[.agg #[.int .i64 2, .int .i64 frm.base.k, .int .i64 frm.base.a, .int .i64 frm.base.b, .int .i64 frm.base.c, .int .i64 frm.base.d, .int .i64 frm.len, .int .i64 to.base.k, .int .i64 to.base.a, .int .i64 to.base.b, .int .i64 to.base.c, .int .i64 to.base.d, .int .i64 to.len, .int .i64 0, .int .i64 0, .int .i64 0, .int .i64 n]] w fun e w' => e = .returned (.bool false) ∧ Below w.heap.size w w' := by
  have q0 := Lib.hid (K.new w (.cells #[.int .i64 2, .int .i64 frm.base.k, .int .i64 frm.base.a, .int .i64 frm.base.b, .int .i64 frm.base.c, .int .i64 frm.base.d, .int .i64 frm.len, .int .i64 to.base.k, .int .i64 to.base.a, .int .i64 to.base.b, .int .i64 to.base.c, .int .i64 to.base.d, .int .i64 to.len, .int .i64 0, .int .i64 0, .int .i64 0, .int .i64 n] 33))
  go_enter Try.func15, Try.ntmps15
  go_wp2
  go_ret
  exact ⟨rfl, (Joins.below_alloc1 w _)⟩

set_option maxHeartbeats 2000000 in
theorem moS_2t (frm to : Pf) (b : Bool) (w : World) (h1 : twins frm to = b) : Calls Try.prog 15 #[.agg #[.int .i64 2, .int .i64 frm.base.k, .int .i64 frm.base.a, .int .i64 frm.base.b, .int .i64 frm.base.c, .int .i64 frm.base.d, .int .i64 frm.len, .int .i64 to.base.k, .int .i64 to.base.a, .int .i64 to.base.b, .int .i64 to.base.c, .int .i64 to.base.d, .int .i64 to.len, .int .i64 0, .int .i64 0, .int .i64 0, .int .i64 0]] w fun e w' => e = .returned (.bool b) ∧ Below w.heap.size w w' := by
  have q0 := Lib.hid (K.new w (.cells #[.int .i64 2, .int .i64 frm.base.k, .int .i64 frm.base.a, .int .i64 frm.base.b, .int .i64 frm.base.c, .int .i64 frm.base.d, .int .i64 frm.len, .int .i64 to.base.k, .int .i64 to.base.a, .int .i64 to.base.b, .int .i64 to.base.c, .int .i64 to.base.d, .int .i64 to.len, .int .i64 0, .int .i64 0, .int .i64 0, .int .i64 0] 33))
  have H1 := Lib.hid h1
  clear h1
  go_enter Try.func15, Try.ntmps15
  go_wp2_with fail
  refine Calls.mono (twinsSB frm to b H1.out _) ?_
  rintro e w1 ⟨rfl, b1⟩
  have B1 := Lib.hid (bthen (Joins.below_alloc1 w _) b1)
  clear b1 
  go_wp2
  go_ret
  exact ⟨rfl, B1.out⟩

set_option maxHeartbeats 2000000 in
theorem moS_3p (frm to : Pf) (proto lo hi n : Int) (w : World) (hp : ¬ proto = 0) : Calls Try.prog 15 #[.agg #[.int .i64 3, .int .i64 frm.base.k, .int .i64 frm.base.a, .int .i64 frm.base.b, .int .i64 frm.base.c, .int .i64 frm.base.d, .int .i64 frm.len, .int .i64 to.base.k, .int .i64 to.base.a, .int .i64 to.base.b, .int .i64 to.base.c, .int .i64 to.base.d, .int .i64 to.len, .int .i64 proto, .int .i64 lo, .int .i64 hi, .int .i64 n]] w fun e w' => e = .returned (.bool false) ∧ Below w.heap.size w w' := by
  have q0 := Lib.hid (K.new w (.cells #[.int .i64 3, .int .i64 frm.base.k, .int .i64 frm.base.a, .int .i64 frm.base.b, .int .i64 frm.base.c, .int .i64 frm.base.d, .int .i64 frm.len, .int .i64 to.base.k, .int .i64 to.base.a, .int .i64 to.base.b, .int .i64 to.base.c, .int .i64 to.base.d, .int .i64 to.len, .int .i64 proto, .int .i64 lo, .int .i64 hi, .int .i64 n] 33))
  go_enter Try.func15, Try.ntmps15
  go_wp2
  go_ret
  exact ⟨rfl, (Joins.below_alloc1 w _)⟩

set_option maxHeartbeats 2000000 in
theorem moS_3l (frm to : Pf) (lo hi n : Int) (w : World) (hp : ¬ lo = 0) : Calls Try.prog 15 #[.agg #[.int .i64 3, .int .i64 frm.base.k, .int .i64 frm.base.a, .int .i64 frm.base.b, .int .i64 frm.base.c, .int .i64 frm.base.d, .int .i64 frm.len, .int .i64 to.base.k, .int .i64 to.base.a, .int .i64 to.base.b, .int .i64 to.base.c, .int .i64 to.base.d, .int .i64 to.len, .int .i64 0, .int .i64 lo, .int .i64 hi, .int .i64 n]] w fun e w' => e = .returned (.bool false) ∧ Below w.heap.size w w' := by
  have q0 := Lib.hid (K.new w (.cells #[.int .i64 3, .int .i64 frm.base.k, .int .i64 frm.base.a, .int .i64 frm.base.b, .int .i64 frm.base.c, .int .i64 frm.base.d, .int .i64 frm.len, .int .i64 to.base.k, .int .i64 to.base.a, .int .i64 to.base.b, .int .i64 to.base.c, .int .i64 to.base.d, .int .i64 to.len, .int .i64 0, .int .i64 lo, .int .i64 hi, .int .i64 n] 33))
  go_enter Try.func15, Try.ntmps15
  go_wp2
  go_ret
  exact ⟨rfl, (Joins.below_alloc1 w _)⟩

set_option maxHeartbeats 2000000 in
theorem moS_3h (frm to : Pf) (hi n : Int) (w : World) (hp : ¬ hi = 0) : Calls Try.prog 15 #[.agg #[.int .i64 3, .int .i64 frm.base.k, .int .i64 frm.base.a, .int .i64 frm.base.b, .int .i64 frm.base.c, .int .i64 frm.base.d, .int .i64 frm.len, .int .i64 to.base.k, .int .i64 to.base.a, .int .i64 to.base.b, .int .i64 to.base.c, .int .i64 to.base.d, .int .i64 to.len, .int .i64 0, .int .i64 0, .int .i64 hi, .int .i64 n]] w fun e w' => e = .returned (.bool false) ∧ Below w.heap.size w w' := by
  have q0 := Lib.hid (K.new w (.cells #[.int .i64 3, .int .i64 frm.base.k, .int .i64 frm.base.a, .int .i64 frm.base.b, .int .i64 frm.base.c, .int .i64 frm.base.d, .int .i64 frm.len, .int .i64 to.base.k, .int .i64 to.base.a, .int .i64 to.base.b, .int .i64 to.base.c, .int .i64 to.base.d, .int .i64 to.len, .int .i64 0, .int .i64 0, .int .i64 hi, .int .i64 n] 33))
  go_enter Try.func15, Try.ntmps15
  go_wp2
  go_ret
  exact ⟨rfl, (Joins.below_alloc1 w _)⟩

set_option maxHeartbeats 2000000 in
theorem moS_3n (frm to : Pf) (n : Int) (w : World) (hp : ¬ n = 0) : Calls Try.prog 15 #[.agg #[.int .i64 3, .int .i64 frm.base.k, .int .i64 frm.base.a, .int .i64 frm.base.b, .int .i64 frm.base.c, .int .i64 frm.base.d, .int .i64 frm.len, .int .i64 to.base.k, .int .i64 to.base.a, .int .i64 to.base.b, .int .i64 to.base.c, .int .i64 to.base.d, .int .i64 to.len, .int .i64 0, .int .i64 0, .int .i64 0, .int .i64 n]] w fun e w' => e = .returned (.bool false) ∧ Below w.heap.size w w' := by
  have q0 := Lib.hid (K.new w (.cells #[.int .i64 3, .int .i64 frm.base.k, .int .i64 frm.base.a, .int .i64 frm.base.b, .int .i64 frm.base.c, .int .i64 frm.base.d, .int .i64 frm.len, .int .i64 to.base.k, .int .i64 to.base.a, .int .i64 to.base.b, .int .i64 to.base.c, .int .i64 to.base.d, .int .i64 to.len, .int .i64 0, .int .i64 0, .int .i64 0, .int .i64 n] 33))
  go_enter Try.func15, Try.ntmps15
  go_wp2
  go_ret
  exact ⟨rfl, (Joins.below_alloc1 w _)⟩

set_option maxHeartbeats 2000000 in
theorem moS_3t (frm to : Pf) (b : Bool) (w : World) (h1 : twins frm to = b) : Calls Try.prog 15 #[.agg #[.int .i64 3, .int .i64 frm.base.k, .int .i64 frm.base.a, .int .i64 frm.base.b, .int .i64 frm.base.c, .int .i64 frm.base.d, .int .i64 frm.len, .int .i64 to.base.k, .int .i64 to.base.a, .int .i64 to.base.b, .int .i64 to.base.c, .int .i64 to.base.d, .int .i64 to.len, .int .i64 0, .int .i64 0, .int .i64 0, .int .i64 0]] w fun e w' => e = .returned (.bool b) ∧ Below w.heap.size w w' := by
  have q0 := Lib.hid (K.new w (.cells #[.int .i64 3, .int .i64 frm.base.k, .int .i64 frm.base.a, .int .i64 frm.base.b, .int .i64 frm.base.c, .int .i64 frm.base.d, .int .i64 frm.len, .int .i64 to.base.k, .int .i64 to.base.a, .int .i64 to.base.b, .int .i64 to.base.c, .int .i64 to.base.d, .int .i64 to.len, .int .i64 0, .int .i64 0, .int .i64 0, .int .i64 0] 33))
  have H1 := Lib.hid h1
  clear h1
  go_enter Try.func15, Try.ntmps15
  go_wp2_with fail
  refine Calls.mono (twinsSB frm to b H1.out _) ?_
  rintro e w1 ⟨rfl, b1⟩
  have B1 := Lib.hid (bthen (Joins.below_alloc1 w _) b1)
  clear b1 
  go_wp2
  go_ret
  exact ⟨rfl, B1.out⟩

set_option maxHeartbeats 2000000 in
theorem moS_4p (frm to : Pf) (proto lo hi n : Int) (w : World) (hp : ¬ proto = 0) : Calls Try.prog 15 #[.agg #[.int .i64 4, .int .i64 frm.base.k, .int .i64 frm.base.a, .int .i64 frm.base.b, .int .i64 frm.base.c, .int .i64 frm.base.d, .int .i64 frm.len, .int .i64 to.base.k, .int .i64 to.base.a, .int .i64 to.base.b, .int .i64 to.base.c, .int .i64 to.base.d, .int .i64 to.len, .int .i64 proto, .int .i64 lo, .int .i64 hi, .int .i64 n]] w fun e w' => e = .returned (.bool false) ∧ Below w.heap.size w w' := by
  have q0 := Lib.hid (K.new w (.cells #[.int .i64 4, .int .i64 frm.base.k, .int .i64 frm.base.a, .int .i64 frm.base.b, .int .i64 frm.base.c, .int .i64 frm.base.d, .int .i64 frm.len, .int .i64 to.base.k, .int .i64 to.base.a, .int .i64 to.base.b, .int .i64 to.base.c, .int .i64 to.base.d, .int .i64 to.len, .int .i64 proto, .int .i64 lo, .int .i64 hi, .int .i64 n] 33))
  go_enter Try.func15, Try.ntmps15
  go_wp2
  go_ret
  exact ⟨rfl, (Joins.below_alloc1 w _)⟩

set_option maxHeartbeats 2000000 in
theorem moS_4l (frm to : Pf) (lo hi n : Int) (w : World) (hp : ¬ lo = 0) : Calls Try.prog 15 #[.agg #[.int .i64 4, .int .i64 frm.base.k, .int .i64 frm.base.a, .int .i64 frm.base.b, .int .i64 frm.base.c, .int .i64 frm.base.d, .int .i64 frm.len, .int .i64 to.base.k, .int .i64 to.base.a, .int .i64 to.base.b, .int .i64 to.base.c, .int .i64 to.base.d, .int .i64 to.len, .int .i64 0, .int .i64 lo, .int .i64 hi, .int .i64 n]] w fun e w' => e = .returned (.bool false) ∧ Below w.heap.size w w' := by
  have q0 := Lib.hid (K.new w (.cells #[.int .i64 4, .int .i64 frm.base.k, .int .i64 frm.base.a, .int .i64 frm.base.b, .int .i64 frm.base.c, .int .i64 frm.base.d, .int .i64 frm.len, .int .i64 to.base.k, .int .i64 to.base.a, .int .i64 to.base.b, .int .i64 to.base.c, .int .i64 to.base.d, .int .i64 to.len, .int .i64 0, .int .i64 lo, .int .i64 hi, .int .i64 n] 33))
  go_enter Try.func15, Try.ntmps15
  go_wp2
  go_ret
  exact ⟨rfl, (Joins.below_alloc1 w _)⟩

set_option maxHeartbeats 2000000 in
theorem moS_4h (frm to : Pf) (hi n : Int) (w : World) (hp : ¬ hi = 0) : Calls Try.prog 15 #[.agg #[.int .i64 4, .int .i64 frm.base.k, .int .i64 frm.base.a, .int .i64 frm.base.b, .int .i64 frm.base.c, .int .i64 frm.base.d, .int .i64 frm.len, .int .i64 to.base.k, .int .i64 to.base.a, .int .i64 to.base.b, .int .i64 to.base.c, .int .i64 to.base.d, .int .i64 to.len, .int .i64 0, .int .i64 0, .int .i64 hi, .int .i64 n]] w fun e w' => e = .returned (.bool false) ∧ Below w.heap.size w w' := by
  have q0 := Lib.hid (K.new w (.cells #[.int .i64 4, .int .i64 frm.base.k, .int .i64 frm.base.a, .int .i64 frm.base.b, .int .i64 frm.base.c, .int .i64 frm.base.d, .int .i64 frm.len, .int .i64 to.base.k, .int .i64 to.base.a, .int .i64 to.base.b, .int .i64 to.base.c, .int .i64 to.base.d, .int .i64 to.len, .int .i64 0, .int .i64 0, .int .i64 hi, .int .i64 n] 33))
  go_enter Try.func15, Try.ntmps15
  go_wp2
  go_ret
  exact ⟨rfl, (Joins.below_alloc1 w _)⟩

set_option maxHeartbeats 2000000 in
theorem moS_4n (frm to : Pf) (n : Int) (w : World) (hp : ¬ n = 0) : Calls Try.prog 15 #[.agg #[.int .i64 4, .int .i64 frm.base.k, .int .i64 frm.base.a, .int .i64 frm.base.b, .int .i64 frm.base.c, .int .i64 frm.base.d, .int .i64 frm.len, .int .i64 to.base.k, .int .i64 to.base.a, .int .i64 to.base.b, .int .i64 to.base.c, .int .i64 to.base.d, .int .i64 to.len, .int .i64 0, .int .i64 0, .int .i64 0, .int .i64 n]] w fun e w' => e = .returned (.bool false) ∧ Below w.heap.size w w' := by
  have q0 := Lib.hid (K.new w (.cells #[.int .i64 4, .int .i64 frm.base.k, .int .i64 frm.base.a, .int .i64 frm.base.b, .int .i64 frm.base.c, .int .i64 frm.base.d, .int .i64 frm.len, .int .i64 to.base.k, .int .i64 to.base.a, .int .i64 to.base.b, .int .i64 to.base.c, .int .i64 to.base.d, .int .i64 to.len, .int .i64 0, .int .i64 0, .int .i64 0, .int .i64 n] 33))
  go_enter Try.func15, Try.ntmps15
  go_wp2
  go_ret
  exact ⟨rfl, (Joins.below_alloc1 w _)⟩

set_option maxHeartbeats 2000000 in
theorem moS_4a (frm to : Pf) (w : World) (h1 : decide (frm = Pf.zero) = false) : Calls Try.prog 15 #[.agg #[.int .i64 4, .int .i64 frm.base.k, .int .i64 frm.base.a, .int .i64 frm.base.b, .int .i64 frm.base.c, .int .i64 frm.base.d, .int .i64 frm.len, .int .i64 to.base.k, .int .i64 to.base.a, .int .i64 to.base.b, .int .i64 to.base.c, .int .i64 to.base.d, .int .i64 to.len, .int .i64 0, .int .i64 0, .int .i64 0, .int .i64 0]] w fun e w' => e = .returned (.bool false) ∧ Below w.heap.size w w' := by
  have q0 := Lib.hid (K.new w (.cells #[.int .i64 4, .int .i64 frm.base.k, .int .i64 frm.base.a, .int .i64 frm.base.b, .int .i64 frm.base.c, .int .i64 frm.base.d, .int .i64 frm.len, .int .i64 to.base.k, .int .i64 to.base.a, .int .i64 to.base.b, .int .i64 to.base.c, .int .i64 to.base.d, .int .i64 to.len, .int .i64 0, .int .i64 0, .int .i64 0, .int .i64 0] 33))
  have H1 := Lib.hid h1
  clear h1
  go_enter Try.func15, Try.ntmps15
  go_wp2_with fail
  refine Calls.mono (anySB frm false H1.out _) ?_
  rintro e w1 ⟨rfl, b1⟩
  have B1 := Lib.hid (bthen (Joins.below_alloc1 w _) b1)
  have q1 := Lib.hid (K.below b1 q0.out)
  clear b1 
  have c0 := K.cell q1.out 0 _ rfl
  go_wp2
  go_ret
  exact ⟨rfl, B1.out⟩

set_option maxHeartbeats 2000000 in
theorem moS_4b (frm to : Pf) (w : World) (h1 : decide (frm = Pf.zero) = true) (h2 : decide (to = Pf.zero) = false) : Calls Try.prog 15 #[.agg #[.int .i64 4, .int .i64 frm.base.k, .int .i64 frm.base.a, .int .i64 frm.base.b, .int .i64 frm.base.c, .int .i64 frm.base.d, .int .i64 frm.len, .int .i64 to.base.k, .int .i64 to.base.a, .int .i64 to.base.b, .int .i64 to.base.c, .int .i64 to.base.d, .int .i64 to.len, .int .i64 0, .int .i64 0, .int .i64 0, .int .i64 0]] w fun e w' => e = .returned (.bool false) ∧ Below w.heap.size w w' := by
  have q0 := Lib.hid (K.new w (.cells #[.int .i64 4, .int .i64 frm.base.k, .int .i64 frm.base.a, .int .i64 frm.base.b, .int .i64 frm.base.c, .int .i64 frm.base.d, .int .i64 frm.len, .int .i64 to.base.k, .int .i64 to.base.a, .int .i64 to.base.b, .int .i64 to.base.c, .int .i64 to.base.d, .int .i64 to.len, .int .i64 0, .int .i64 0, .int .i64 0, .int .i64 0] 33))
  have H1 := Lib.hid h1
  have H2 := Lib.hid h2
  clear h1 h2
  go_enter Try.func15, Try.ntmps15
  go_wp2_with fail
  refine Calls.mono (anySB frm true H1.out _) ?_
  rintro e w1 ⟨rfl, b1⟩
  have B1 := Lib.hid (bthen (Joins.below_alloc1 w _) b1)
  have q1 := Lib.hid (K.below b1 q0.out)
  clear b1 
  have c7 := K.cell q1.out 7 _ rfl
  have c8 := K.cell q1.out 8 _ rfl
  have c9 := K.cell q1.out 9 _ rfl
  have c10 := K.cell q1.out 10 _ rfl
  have c11 := K.cell q1.out 11 _ rfl
  have c12 := K.cell q1.out 12 _ rfl
  go_wp2_with fail
  refine Calls.mono (anySB to false H2.out _) ?_
  rintro e w2 ⟨rfl, b2⟩
  have B2 := Lib.hid (bthen B1.out b2)
  have q2 := Lib.hid (K.below b2 q1.out)
  clear b2 c7 c8 c9 c10 c11 c12
  have c0 := K.cell q2.out 0 _ rfl
  go_wp2
  go_ret
  exact ⟨rfl, B2.out⟩

set_option maxHeartbeats 2000000 in
theorem moS_4c (frm to : Pf) (w : World) (h1 : decide (frm = Pf.zero) = true) (h2 : decide (to = Pf.zero) = true) : Calls Try.prog 15 #[.agg #[.int .i64 4, .int .i64 frm.base.k, .int .i64 frm.base.a, .int .i64 frm.base.b, .int .i64 frm.base.c, .int .i64 frm.base.d, .int .i64 frm.len, .int .i64 to.base.k, .int .i64 to.base.a, .int .i64 to.base.b, .int .i64 to.base.c, .int .i64 to.base.d, .int .i64 to.len, .int .i64 0, .int .i64 0, .int .i64 0, .int .i64 0]] w fun e w' => e = .returned (.bool true) ∧ Below w.heap.size w w' := by
  have q0 := Lib.hid (K.new w (.cells #[.int .i64 4, .int .i64 frm.base.k, .int .i64 frm.base.a, .int .i64 frm.base.b, .int .i64 frm.base.c, .int .i64 frm.base.d, .int .i64 frm.len, .int .i64 to.base.k, .int .i64 to.base.a, .int .i64 to.base.b, .int .i64 to.base.c, .int .i64 to.base.d, .int .i64 to.len, .int .i64 0, .int .i64 0, .int .i64 0, .int .i64 0] 33))
  have H1 := Lib.hid h1
  have H2 := Lib.hid h2
  clear h1 h2
  go_enter Try.func15, Try.ntmps15
  go_wp2_with fail
  refine Calls.mono (anySB frm true H1.out _) ?_
  rintro e w1 ⟨rfl, b1⟩
  have B1 := Lib.hid (bthen (Joins.below_alloc1 w _) b1)
  have q1 := Lib.hid (K.below b1 q0.out)
  clear b1 
  have c7 := K.cell q1.out 7 _ rfl
  have c8 := K.cell q1.out 8 _ rfl
  have c9 := K.cell q1.out 9 _ rfl
  have c10 := K.cell q1.out 10 _ rfl
  have c11 := K.cell q1.out 11 _ rfl
  have c12 := K.cell q1.out 12 _ rfl
  go_wp2_with fail
  refine Calls.mono (anySB to true H2.out _) ?_
  rintro e w2 ⟨rfl, b2⟩
  have B2 := Lib.hid (bthen B1.out b2)
  have q2 := Lib.hid (K.below b2 q1.out)
  clear b2 c7 c8 c9 c10 c11 c12
  have c0 := K.cell q2.out 0 _ rfl
  go_wp2
  go_ret
  exact ⟨rfl, B2.out⟩

set_option maxHeartbeats 2000000 in
theorem moS_6p (frm to : Pf) (proto lo hi n : Int) (w : World) (hp : ¬ proto = 0) : Calls Try.prog 15 #[.agg #[.int .i64 6, .int .i64 frm.base.k, .int .i64 frm.base.a, .int .i64 frm.base.b, .int .i64 frm.base.c, .int .i64 frm.base.d, .int .i64 frm.len, .int .i64 to.base.k, .int .i64 to.base.a, .int .i64 to.base.b, .int .i64 to.base.c, .int .i64 to.base.d, .int .i64 to.len, .int .i64 proto, .int .i64 lo, .int .i64 hi, .int .i64 n]] w fun e w' => e = .returned (.bool false) ∧ Below w.heap.size w w' := by
  have q0 := Lib.hid (K.new w (.cells #[.int .i64 6, .int .i64 frm.base.k, .int .i64 frm.base.a, .int .i64 frm.base.b, .int .i64 frm.base.c, .int .i64 frm.base.d, .int .i64 frm.len, .int .i64 to.base.k, .int .i64 to.base.a, .int .i64 to.base.b, .int .i64 to.base.c, .int .i64 to.base.d, .int .i64 to.len, .int .i64 proto, .int .i64 lo, .int .i64 hi, .int .i64 n] 33))
  go_enter Try.func15, Try.ntmps15
  go_wp2
  go_ret
  exact ⟨rfl, (Joins.below_alloc1 w _)⟩

set_option maxHeartbeats 2000000 in
theorem moS_6l (frm to : Pf) (lo hi n : Int) (w : World) (hp : ¬ lo = 0) : Calls Try.prog 15 #[.agg #[.int .i64 6, .int .i64 frm.base.k, .int .i64 frm.base.a, .int .i64 frm.base.b, .int .i64 frm.base.c, .int .i64 frm.base.d, .int .i64 frm.len, .int .i64 to.base.k, .int .i64 to.base.a, .int .i64 to.base.b, .int .i64 to.base.c, .int .i64 to.base.d, .int .i64 to.len, .int .i64 0, .int .i64 lo, .int .i64 hi, .int .i64 n]] w fun e w' => e = .returned (.bool false) ∧ Below w.heap.size w w' := by
  have q0 := Lib.hid (K.new w (.cells #[.int .i64 6, .int .i64 frm.base.k, .int .i64 frm.base.a, .int .i64 frm.base.b, .int .i64 frm.base.c, .int .i64 frm.base.d, .int .i64 frm.len, .int .i64 to.base.k, .int .i64 to.base.a, .int .i64 to.base.b, .int .i64 to.base.c, .int .i64 to.base.d, .int .i64 to.len, .int .i64 0, .int .i64 lo, .int .i64 hi, .int .i64 n] 33))
  go_enter Try.func15, Try.ntmps15
  go_wp2
  go_ret
  exact ⟨rfl, (Joins.below_alloc1 w _)⟩

set_option maxHeartbeats 2000000 in
theorem moS_6h (frm to : Pf) (hi n : Int) (w : World) (hp : ¬ hi = 0) : Calls Try.prog 15 #[.agg #[.int .i64 6, .int .i64 frm.base.k, .int .i64 frm.base.a, .int .i64 frm.base.b, .int .i64 frm.base.c, .int .i64 frm.base.d, .int .i64 frm.len, .int .i64 to.base.k, .int .i64 to.base.a, .int .i64 to.base.b, .int .i64 to.base.c, .int .i64 to.base.d, .int .i64 to.len, .int .i64 0, .int .i64 0, .int .i64 hi, .int .i64 n]] w fun e w' => e = .returned (.bool false) ∧ Below w.heap.size w w' := by
  have q0 := Lib.hid (K.new w (.cells #[.int .i64 6, .int .i64 frm.base.k, .int .i64 frm.base.a, .int .i64 frm.base.b, .int .i64 frm.base.c, .int .i64 frm.base.d, .int .i64 frm.len, .int .i64 to.base.k, .int .i64 to.base.a, .int .i64 to.base.b, .int .i64 to.base.c, .int .i64 to.base.d, .int .i64 to.len, .int .i64 0, .int .i64 0, .int .i64 hi, .int .i64 n] 33))
  go_enter Try.func15, Try.ntmps15
  go_wp2
  go_ret
  exact ⟨rfl, (Joins.below_alloc1 w _)⟩

set_option maxHeartbeats 2000000 in
theorem moS_6n (frm to : Pf) (n : Int) (w : World) (hp : ¬ n = 0) : Calls Try.prog 15 #[.agg #[.int .i64 6, .int .i64 frm.base.k, .int .i64 frm.base.a, .int .i64 frm.base.b, .int .i64 frm.base.c, .int .i64 frm.base.d, .int .i64 frm.len, .int .i64 to.base.k, .int .i64 to.base.a, .int .i64 to.base.b, .int .i64 to.base.c, .int .i64 to.base.d, .int .i64 to.len, .int .i64 0, .int .i64 0, .int .i64 0, .int .i64 n]] w fun e w' => e = .returned (.bool false) ∧ Below w.heap.size w w' := by
  have q0 := Lib.hid (K.new w (.cells #[.int .i64 6, .int .i64 frm.base.k, .int .i64 frm.base.a, .int .i64 frm.base.b, .int .i64 frm.base.c, .int .i64 frm.base.d, .int .i64 frm.len, .int .i64 to.base.k, .int .i64 to.base.a, .int .i64 to.base.b, .int .i64 to.base.c, .int .i64 to.base.d, .int .i64 to.len, .int .i64 0, .int .i64 0, .int .i64 0, .int .i64 n] 33))
  go_enter Try.func15, Try.ntmps15
  go_wp2
  go_ret
  exact ⟨rfl, (Joins.below_alloc1 w _)⟩

set_option maxHeartbeats 2000000 in
theorem moS_6a (frm to : Pf) (w : World) (h1 : decide (frm = Pf.zero) = false) : Calls Try.prog 15 #[.agg #[.int .i64 6, .int .i64 frm.base.k, .int .i64 frm.base.a, .int .i64 frm.base.b, .int .i64 frm.base.c, .int .i64 frm.base.d, .int .i64 frm.len, .int .i64 to.base.k, .int .i64 to.base.a, .int .i64 to.base.b, .int .i64 to.base.c, .int .i64 to.base.d, .int .i64 to.len, .int .i64 0, .int .i64 0, .int .i64 0, .int .i64 0]] w fun e w' => e = .returned (.bool false) ∧ Below w.heap.size w w' := by
  have q0 := Lib.hid (K.new w (.cells #[.int .i64 6, .int .i64 frm.base.k, .int .i64 frm.base.a, .int .i64 frm.base.b, .int .i64 frm.base.c, .int .i64 frm.base.d, .int .i64 frm.len, .int .i64 to.base.k, .int .i64 to.base.a, .int .i64 to.base.b, .int .i64 to.base.c, .int .i64 to.base.d, .int .i64 to.len, .int .i64 0, .int .i64 0, .int .i64 0, .int .i64 0] 33))
  have H1 := Lib.hid h1
  clear h1
  go_enter Try.func15, Try.ntmps15
  go_wp2_with fail
  refine Calls.mono (anySB frm false H1.out _) ?_
  rintro e w1 ⟨rfl, b1⟩
  have B1 := Lib.hid (bthen (Joins.below_alloc1 w _) b1)
  have q1 := Lib.hid (K.below b1 q0.out)
  clear b1 
  have c0 := K.cell q1.out 0 _ rfl
  go_wp2
  go_ret
  exact ⟨rfl, B1.out⟩

set_option maxHeartbeats 2000000 in
theorem moS_6b (frm to : Pf) (w : World) (h1 : decide (frm = Pf.zero) = true) (h2 : decide (to = Pf.zero) = false) : Calls Try.prog 15 #[.agg #[.int .i64 6, .int .i64 frm.base.k, .int .i64 frm.base.a, .int .i64 frm.base.b, .int .i64 frm.base.c, .int .i64 frm.base.d, .int .i64 frm.len, .int .i64 to.base.k, .int .i64 to.base.a, .int .i64 to.base.b, .int .i64 to.base.c, .int .i64 to.base.d, .int .i64 to.len, .int .i64 0, .int .i64 0, .int .i64 0, .int .i64 0]] w fun e w' => e = .returned (.bool false) ∧ Below w.heap.size w w' := by
  have q0 := Lib.hid (K.new w (.cells #[.int .i64 6, .int .i64 frm.base.k, .int .i64 frm.base.a, .int .i64 frm.base.b, .int .i64 frm.base.c, .int .i64 frm.base.d, .int .i64 frm.len, .int .i64 to.base.k, .int .i64 to.base.a, .int .i64 to.base.b, .int .i64 to.base.c, .int .i64 to.base.d, .int .i64 to.len, .int .i64 0, .int .i64 0, .int .i64 0, .int .i64 0] 33))
  have H1 := Lib.hid h1
  have H2 := Lib.hid h2
  clear h1 h2
  go_enter Try.func15, Try.ntmps15
  go_wp2_with fail
  refine Calls.mono (anySB frm true H1.out _) ?_
  rintro e w1 ⟨rfl, b1⟩
  have B1 := Lib.hid (bthen (Joins.below_alloc1 w _) b1)
  have q1 := Lib.hid (K.below b1 q0.out)
  clear b1 
  have c7 := K.cell q1.out 7 _ rfl
  have c8 := K.cell q1.out 8 _ rfl
  have c9 := K.cell q1.out 9 _ rfl
  have c10 := K.cell q1.out 10 _ rfl
  have c11 := K.cell q1.out 11 _ rfl
  have c12 := K.cell q1.out 12 _ rfl
  go_wp2_with fail
  refine Calls.mono (anySB to false H2.out _) ?_
  rintro e w2 ⟨rfl, b2⟩
  have B2 := Lib.hid (bthen B1.out b2)
  have q2 := Lib.hid (K.below b2 q1.out)
  clear b2 c7 c8 c9 c10 c11 c12
  have c0 := K.cell q2.out 0 _ rfl
  go_wp2
  go_ret
  exact ⟨rfl, B2.out⟩

set_option maxHeartbeats 2000000 in
theorem moS_6c (frm to : Pf) (w : World) (h1 : decide (frm = Pf.zero) = true) (h2 : decide (to = Pf.zero) = true) : Calls Try.prog 15 #[.agg #[.int .i64 6, .int .i64 frm.base.k, .int .i64 frm.base.a, .int .i64 frm.base.b, .int .i64 frm.base.c, .int .i64 frm.base.d, .int .i64 frm.len, .int .i64 to.base.k, .int .i64 to.base.a, .int .i64 to.base.b, .int .i64 to.base.c, .int .i64 to.base.d, .int .i64 to.len, .int .i64 0, .int .i64 0, .int .i64 0, .int .i64 0]] w fun e w' => e = .returned (.bool true) ∧ Below w.heap.size w w' := by
  have q0 := Lib.hid (K.new w (.cells #[.int .i64 6, .int .i64 frm.base.k, .int .i64 frm.base.a, .int .i64 frm.base.b, .int .i64 frm.base.c, .int .i64 frm.base.d, .int .i64 frm.len, .int .i64 to.base.k, .int .i64 to.base.a, .int .i64 to.base.b, .int .i64 to.base.c, .int .i64 to.base.d, .int .i64 to.len, .int .i64 0, .int .i64 0, .int .i64 0, .int .i64 0] 33))
  have H1 := Lib.hid h1
  have H2 := Lib.hid h2
  clear h1 h2
  go_enter Try.func15, Try.ntmps15
  go_wp2_with fail
  refine Calls.mono (anySB frm true H1.out _) ?_
  rintro e w1 ⟨rfl, b1⟩
  have B1 := Lib.hid (bthen (Joins.below_alloc1 w _) b1)
  have q1 := Lib.hid (K.below b1 q0.out)
  clear b1 
  have c7 := K.cell q1.out 7 _ rfl
  have c8 := K.cell q1.out 8 _ rfl
  have c9 := K.cell q1.out 9 _ rfl
  have c10 := K.cell q1.out 10 _ rfl
  have c11 := K.cell q1.out 11 _ rfl
  have c12 := K.cell q1.out 12 _ rfl
  go_wp2_with fail
  refine Calls.mono (anySB to true H2.out _) ?_
  rintro e w2 ⟨rfl, b2⟩
  have B2 := Lib.hid (bthen B1.out b2)
  have q2 := Lib.hid (K.below b2 q1.out)
  clear b2 c7 c8 c9 c10 c11 c12
  have c0 := K.cell q2.out 0 _ rfl
  go_wp2
  go_ret
  exact ⟨rfl, B2.out⟩
end Go.Proofs.Ytdndanbalmoklaa

namespace Go.Proofs.Ytdndanbalmoklaa
set_option maxRecDepth 100000
open Go.RowKit

theorem moOkS (m : Mo) (w : World) : Calls Try.prog 15 #[.agg #[.int .i64 m.kind, .int .i64 m.frm.base.k, .int .i64 m.frm.base.a, .int .i64 m.frm.base.b, .int .i64 m.frm.base.c, .int .i64 m.frm.base.d, .int .i64 m.frm.len, .int .i64 m.to.base.k, .int .i64 m.to.base.a, .int .i64 m.to.base.b, .int .i64 m.to.base.c, .int .i64 m.to.base.d, .int .i64 m.to.len, .int .i64 m.proto, .int .i64 m.lo, .int .i64 m.hi, .int .i64 m.n]] w fun e w' => e = .returned (.bool m.ok) ∧ Below w.heap.size w w' := by
  obtain ⟨kind, frm, to, proto, lo, hi, n⟩ := m
  show Calls Try.prog 15 #[.agg #[.int .i64 kind, .int .i64 frm.base.k, .int .i64 frm.base.a, .int .i64 frm.base.b, .int .i64 frm.base.c, .int .i64 frm.base.d, .int .i64 frm.len, .int .i64 to.base.k, .int .i64 to.base.a, .int .i64 to.base.b, .int .i64 to.base.c, .int .i64 to.base.d, .int .i64 to.len, .int .i64 proto, .int .i64 lo, .int .i64 hi, .int .i64 n]] w _
  by_cases lt : kind < 1
  · exact (moS_0a frm to kind proto lo hi n w lt).mono fun _ _ ⟨a, b⟩ => ⟨a.trans (ret_bool (by rw [Mo.ok0 (.inl lt)])), b⟩
  by_cases gt : 7 < kind
  · exact (moS_0b frm to kind proto lo hi n w gt).mono fun _ _ ⟨a, b⟩ => ⟨a.trans (ret_bool (by rw [Mo.ok0 (.inr gt)])), b⟩
  by_cases k1 : kind = 1
  · subst k1
    have e := Mo.ok1 (m := ⟨1, frm, to, proto, lo, hi, n⟩) rfl
    by_cases en : n = 0
    case neg => exact (moS_1n frm to proto lo hi n w en).mono fun _ _ ⟨a, b⟩ => ⟨a.trans (ret_bool (by rw [e]; simp [en])), b⟩
    subst en
    cases h1 : frm.ok with
    | false => exact (moS_1a frm to proto lo hi w h1).mono fun _ _ ⟨a, b⟩ => ⟨a.trans (ret_bool (by rw [e]; simp [h1])), b⟩
    | true =>
      cases h2 : to.ok with
      | false => exact (moS_1b frm to proto lo hi w h1 h2).mono fun _ _ ⟨a, b⟩ => ⟨a.trans (ret_bool (by rw [e]; simp [h2])), b⟩
      | true =>
        by_cases p1 : proto < -1
        · exact (moS_1c frm to proto lo hi w h1 h2 p1).mono fun _ _ ⟨a, b⟩ => ⟨a.trans (ret_bool (by rw [e]; simp [h1, h2, upTo, show ¬ proto = -1 by omega, show ¬ 0 ≤ proto by omega])), b⟩
        · by_cases p2 : 255 < proto
          · exact (moS_1d frm to proto lo hi w h1 h2 (by omega) p2).mono fun _ _ ⟨a, b⟩ => ⟨a.trans (ret_bool (by rw [e]; simp [h1, h2, upTo, show ¬ proto = -1 by omega, show ¬ proto ≤ 255 by omega])), b⟩
          · have e3 : (proto == -1 || upTo proto 255) = true := by simp [upTo]; omega
            exact (moS_1e frm to proto lo hi _ w h1 h2 (by omega) (by omega) rfl).mono fun _ _ ⟨a, b⟩ => ⟨a.trans (ret_bool (by rw [e]; simp only [h1, h2, e3]; simp)), b⟩
  by_cases k2 : kind = 2
  · subst k2
    have e := Mo.ok2 (m := ⟨2, frm, to, proto, lo, hi, n⟩) (.inl rfl)
    by_cases ep : proto = 0
    case neg => exact (moS_2p frm to proto lo hi n w ep).mono fun _ _ ⟨a, b⟩ => ⟨a.trans (ret_bool (by rw [e]; simp [Mo.bare, ep])), b⟩
    subst ep
    by_cases el : lo = 0
    case neg => exact (moS_2l frm to lo hi n w el).mono fun _ _ ⟨a, b⟩ => ⟨a.trans (ret_bool (by rw [e]; simp [Mo.bare, el])), b⟩
    subst el
    by_cases eh : hi = 0
    case neg => exact (moS_2h frm to hi n w eh).mono fun _ _ ⟨a, b⟩ => ⟨a.trans (ret_bool (by rw [e]; simp [Mo.bare, eh])), b⟩
    subst eh
    by_cases en : n = 0
    case neg => exact (moS_2n frm to n w en).mono fun _ _ ⟨a, b⟩ => ⟨a.trans (ret_bool (by rw [e]; simp [en])), b⟩
    subst en
    exact (moS_2t frm to _ w rfl).mono fun _ _ ⟨a, b⟩ => ⟨a.trans (ret_bool (by rw [e]; simp [Mo.bare])), b⟩
  by_cases k3 : kind = 3
  · subst k3
    have e := Mo.ok2 (m := ⟨3, frm, to, proto, lo, hi, n⟩) (.inr rfl)
    by_cases ep : proto = 0
    case neg => exact (moS_3p frm to proto lo hi n w ep).mono fun _ _ ⟨a, b⟩ => ⟨a.trans (ret_bool (by rw [e]; simp [Mo.bare, ep])), b⟩
    subst ep
    by_cases el : lo = 0
    case neg => exact (moS_3l frm to lo hi n w el).mono fun _ _ ⟨a, b⟩ => ⟨a.trans (ret_bool (by rw [e]; simp [Mo.bare, el])), b⟩
    subst el
    by_cases eh : hi = 0
    case neg => exact (moS_3h frm to hi n w eh).mono fun _ _ ⟨a, b⟩ => ⟨a.trans (ret_bool (by rw [e]; simp [Mo.bare, eh])), b⟩
    subst eh
    by_cases en : n = 0
    case neg => exact (moS_3n frm to n w en).mono fun _ _ ⟨a, b⟩ => ⟨a.trans (ret_bool (by rw [e]; simp [en])), b⟩
    subst en
    exact (moS_3t frm to _ w rfl).mono fun _ _ ⟨a, b⟩ => ⟨a.trans (ret_bool (by rw [e]; simp [Mo.bare])), b⟩
  by_cases k4 : kind = 4
  · subst k4
    have e := Mo.ok4 (m := ⟨4, frm, to, proto, lo, hi, n⟩) (.inl rfl)
    by_cases ep : proto = 0
    case neg => exact (moS_4p frm to proto lo hi n w ep).mono fun _ _ ⟨a, b⟩ => ⟨a.trans (ret_bool (by rw [e]; simp [Mo.bare, ep])), b⟩
    subst ep
    by_cases el : lo = 0
    case neg => exact (moS_4l frm to lo hi n w el).mono fun _ _ ⟨a, b⟩ => ⟨a.trans (ret_bool (by rw [e]; simp [Mo.bare, el])), b⟩
    subst el
    by_cases eh : hi = 0
    case neg => exact (moS_4h frm to hi n w eh).mono fun _ _ ⟨a, b⟩ => ⟨a.trans (ret_bool (by rw [e]; simp [Mo.bare, eh])), b⟩
    subst eh
    by_cases en : n = 0
    case neg => exact (moS_4n frm to n w en).mono fun _ _ ⟨a, b⟩ => ⟨a.trans (ret_bool (by rw [e]; simp [en])), b⟩
    subst en
    by_cases z1 : frm = Pf.zero
    case neg => exact (moS_4a frm to w (decide_eq_false z1)).mono fun _ _ ⟨a, b⟩ => ⟨a.trans (ret_bool (by rw [e]; simp [Mo.anys, z1])), b⟩
    by_cases z2 : to = Pf.zero
    case neg => exact (moS_4b frm to w (decide_eq_true z1) (decide_eq_false z2)).mono fun _ _ ⟨a, b⟩ => ⟨a.trans (ret_bool (by rw [e]; simp [Mo.anys, z2])), b⟩
    exact (moS_4c frm to w (decide_eq_true z1) (decide_eq_true z2)).mono fun _ _ ⟨a, b⟩ => ⟨a.trans (ret_bool (by rw [e]; simp [Mo.anys, Mo.bare, z1, z2])), b⟩
  by_cases k6 : kind = 6
  · subst k6
    have e := Mo.ok4 (m := ⟨6, frm, to, proto, lo, hi, n⟩) (.inr rfl)
    by_cases ep : proto = 0
    case neg => exact (moS_6p frm to proto lo hi n w ep).mono fun _ _ ⟨a, b⟩ => ⟨a.trans (ret_bool (by rw [e]; simp [Mo.bare, ep])), b⟩
    subst ep
    by_cases el : lo = 0
    case neg => exact (moS_6l frm to lo hi n w el).mono fun _ _ ⟨a, b⟩ => ⟨a.trans (ret_bool (by rw [e]; simp [Mo.bare, el])), b⟩
    subst el
    by_cases eh : hi = 0
    case neg => exact (moS_6h frm to hi n w eh).mono fun _ _ ⟨a, b⟩ => ⟨a.trans (ret_bool (by rw [e]; simp [Mo.bare, eh])), b⟩
    subst eh
    by_cases en : n = 0
    case neg => exact (moS_6n frm to n w en).mono fun _ _ ⟨a, b⟩ => ⟨a.trans (ret_bool (by rw [e]; simp [en])), b⟩
    subst en
    by_cases z1 : frm = Pf.zero
    case neg => exact (moS_6a frm to w (decide_eq_false z1)).mono fun _ _ ⟨a, b⟩ => ⟨a.trans (ret_bool (by rw [e]; simp [Mo.anys, z1])), b⟩
    by_cases z2 : to = Pf.zero
    case neg => exact (moS_6b frm to w (decide_eq_true z1) (decide_eq_false z2)).mono fun _ _ ⟨a, b⟩ => ⟨a.trans (ret_bool (by rw [e]; simp [Mo.anys, z2])), b⟩
    exact (moS_6c frm to w (decide_eq_true z1) (decide_eq_true z2)).mono fun _ _ ⟨a, b⟩ => ⟨a.trans (ret_bool (by rw [e]; simp [Mo.anys, Mo.bare, z1, z2])), b⟩
  by_cases k5 : kind = 5
  · subst k5
    have e := Mo.ok5 (m := ⟨5, frm, to, proto, lo, hi, n⟩) rfl
    by_cases ep : proto = 0
    case neg => exact (moS_5p frm to proto lo hi n w ep).mono fun _ _ ⟨a, b⟩ => ⟨a.trans (ret_bool (by rw [e]; simp [Mo.bare, ep])), b⟩
    subst ep
    by_cases el : lo = 0
    case neg => exact (moS_5l frm to lo hi n w el).mono fun _ _ ⟨a, b⟩ => ⟨a.trans (ret_bool (by rw [e]; simp [Mo.bare, el])), b⟩
    subst el
    by_cases eh : hi = 0
    case neg => exact (moS_5h frm to hi n w eh).mono fun _ _ ⟨a, b⟩ => ⟨a.trans (ret_bool (by rw [e]; simp [Mo.bare, eh])), b⟩
    subst eh
    by_cases z1 : frm = Pf.zero
    case neg => exact (moS_5a frm to n w (decide_eq_false z1)).mono fun _ _ ⟨a, b⟩ => ⟨a.trans (ret_bool (by rw [e]; simp [Mo.anys, z1])), b⟩
    by_cases z2 : to = Pf.zero
    case neg => exact (moS_5b frm to n w (decide_eq_true z1) (decide_eq_false z2)).mono fun _ _ ⟨a, b⟩ => ⟨a.trans (ret_bool (by rw [e]; simp [Mo.anys, z2])), b⟩
    exact (moS_5c frm to n _ w (decide_eq_true z1) (decide_eq_true z2) rfl).mono fun _ _ ⟨a, b⟩ => ⟨a.trans (ret_bool (by rw [e]; simp [Mo.anys, Mo.bare, z1, z2, btw, upTo])), b⟩
  by_cases k7 : kind = 7
  · subst k7
    have e := Mo.ok7 (m := ⟨7, frm, to, proto, lo, hi, n⟩) rfl
    by_cases ep : proto = 0
    case neg => exact (moS_7p frm to proto lo hi n w ep).mono fun _ _ ⟨a, b⟩ => ⟨a.trans (ret_bool (by rw [e]; simp [Mo.bare, ep])), b⟩
    subst ep
    by_cases el : lo = 0
    case neg => exact (moS_7l frm to lo hi n w el).mono fun _ _ ⟨a, b⟩ => ⟨a.trans (ret_bool (by rw [e]; simp [Mo.bare, el])), b⟩
    subst el
    by_cases eh : hi = 0
    case neg => exact (moS_7h frm to hi n w eh).mono fun _ _ ⟨a, b⟩ => ⟨a.trans (ret_bool (by rw [e]; simp [Mo.bare, eh])), b⟩
    subst eh
    by_cases z1 : frm = Pf.zero
    case neg => exact (moS_7a frm to n w (decide_eq_false z1)).mono fun _ _ ⟨a, b⟩ => ⟨a.trans (ret_bool (by rw [e]; simp [Mo.anys, z1])), b⟩
    by_cases z2 : to = Pf.zero
    case neg => exact (moS_7b frm to n w (decide_eq_true z1) (decide_eq_false z2)).mono fun _ _ ⟨a, b⟩ => ⟨a.trans (ret_bool (by rw [e]; simp [Mo.anys, z2])), b⟩
    exact (moS_7c frm to n w (decide_eq_true z1) (decide_eq_true z2)).mono fun _ _ ⟨a, b⟩ => ⟨a.trans (ret_bool (by rw [e]; simp [Mo.anys, Mo.bare, z1, z2])), b⟩
  omega
theorem moOkSB (m : Mo) (b : Bool) (h : m.ok = b) (w : World) : Calls Try.prog 15 #[.agg #[.int .i64 m.kind, .int .i64 m.frm.base.k, .int .i64 m.frm.base.a, .int .i64 m.frm.base.b, .int .i64 m.frm.base.c, .int .i64 m.frm.base.d, .int .i64 m.frm.len, .int .i64 m.to.base.k, .int .i64 m.to.base.a, .int .i64 m.to.base.b, .int .i64 m.to.base.c, .int .i64 m.to.base.d, .int .i64 m.to.len, .int .i64 m.proto, .int .i64 m.lo, .int .i64 m.hi, .int .i64 m.n]] w fun e w' => e = .returned (.bool b) ∧ Below w.heap.size w w' := h ▸ moOkS m w
end Go.Proofs.Ytdndanbalmoklaa

namespace Go.Proofs.Ytdndanbalmoklaa
set_option maxRecDepth 100000
open Go.RowKit

set_option maxHeartbeats 1000000 in
theorem chainOkS (A : Option Addr) (n c : Nat) (rs : List Mo) (w : World) (hx : RV w w.heap.size A (fl Mo.cells rs)) (hl : rs.length = n) (hn : n ≤ 1048576) :
    Calls Try.prog 19 #[.slice A n c] w fun e w' => e = .returned (.bool (chainOk rs)) ∧ Below w.heap.size w w' := by
  by_cases h8 : (8 : Int) < n
  · have HR := Lib.hid (chainOk_long (rs := rs) (by omega))
    clear hx hl
    go_enter Try.func19, Try.ntmps19
    go_wp2
    go_ret
    exact ⟨ret_bool HR.out.symm, by go_grown⟩
  have HR := Lib.hid (chainOk_short (rs := rs) (by omega))
  have HX := Lib.hid hx
  have HL := Lib.hid hl
  clear hx hl
  go_enter Try.func19, Try.ntmps19
  go_wp2
  go_loopw [3] (fun i wr => ∃ k : Nat, k ≤ n ∧ i = .int .i64 k ∧ Hid ((rs.take k).all Mo.ok = true) ∧ Hid (Below w.heap.size w wr)) (fun i _ => n - (intOf i).toNat)
  case atStart => exact ⟨0, Nat.zero_le _, rfl, Lib.hid (by simp), Lib.hid (Below.refl _ _)⟩
  case round =>
    obtain ⟨k, hk, rfl, hg, hb⟩ := hrel
    by_cases hlt : k < n
    · have hk1 : k < rs.length := by rw [HL.out]; exact hlt
      obtain ⟨g, o, rfl, hgl, hc0⟩ := HX.out.flat Mo.cells_length (by omega) hk1
      have hc := Lib.hid (show wr.rangeAt g (o + k * 17) rs[k].cells from fun j u hu => (hb.out.cell (p := ⟨g, o + k * 17 + j, none⟩) hgl).trans (hc0 j u hu))
      have HNo := Lib.hid (all_ok_bad hk1)
      have HS := Lib.hid (all_ok_succ hk1)
      clear hc0 hgl
      generalize rs[k] = y at *
      cases hok : y.ok with
      | false =>
        have HOK := Lib.hid hok
        clear hok
        go_wp2_with (with_reducible refine loadAtMo rfl _ rfl g (o + k * 17) rfl y hc.out ?_)
        refine Calls.mono (moOkSB y false HOK.out _) ?_
        rintro e w2 ⟨rfl, b2⟩
        have B2 := Lib.hid (bthen hb.out b2)
        clear b2
        go_wp2
        first | go_ret | go_ret3
        exact ⟨ret_bool (HR.out.trans (HNo.out HOK.out)).symm, B2.out⟩
      | true =>
        have HOK := Lib.hid hok
        clear hok
        go_wp2_with (with_reducible refine loadAtMo rfl _ rfl g (o + k * 17) rfl y hc.out ?_)
        refine Calls.mono (moOkSB y true HOK.out _) ?_
        rintro e w2 ⟨rfl, b2⟩
        have B2 := Lib.hid (bthen hb.out b2)
        clear b2
        go_wp2
        go_roundw
        case rel => exact ⟨k + 1, by omega, by go_num, Lib.hid (by rw [HS.out, hg.out, HOK.out]; rfl), B2⟩
        case measure => simp [intOf]; omega
    · obtain rfl : k = n := by omega
      have HE := Lib.hid (show rs.all Mo.ok = true by rw [← hg.out, List.take_of_length_le (by rw [HL.out]; exact Nat.le_refl _)])
      go_wp2
      go_ret
      exact ⟨ret_bool (HR.out.trans HE.out).symm, hb.out⟩
end Go.Proofs.Ytdndanbalmoklaa
