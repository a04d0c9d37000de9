/-
  ModuleOk in the program.
-/
import Derived.Test.YtdndanbalmoklaaMo
import Derived.Test.YtdndanbalmoklaaMoOkLib
import Derived.Test.YtdndanbalmoklaaRuleOkI
import Derived.Test.YtdndanbalmoklaaKeyR
import Derived.Test.YtdndanbalmoklaaMoEqv
namespace Go.Proofs.Ytdndanbalmoklaa
set_option maxRecDepth 100000
open Go.RowKit

theorem eq_mo2 (m : Mo) (w : World) : (Op.equalIn 10000 33 (.agg #[.int .i64 m.kind, .int .i64 m.frm.base.k, .int .i64 m.frm.base.a, .int .i64 m.frm.base.b, .int .i64 m.frm.base.c, .int .i64 m.frm.base.d, .int .i64 m.frm.len, .int .i64 m.to.base.k, .int .i64 m.to.base.a, .int .i64 m.to.base.b, .int .i64 m.to.base.c, .int .i64 m.to.base.d, .int .i64 m.to.len, .int .i64 m.proto, .int .i64 m.lo, .int .i64 m.hi, .int .i64 m.n]) (.agg #[.int .i64 m.kind, .int .i64 m.frm.base.k, .int .i64 m.frm.base.a, .int .i64 m.frm.base.b, .int .i64 m.frm.base.c, .int .i64 m.frm.base.d, .int .i64 m.frm.len, .int .i64 m.to.base.k, .int .i64 m.to.base.a, .int .i64 m.to.base.b, .int .i64 m.to.base.c, .int .i64 m.to.base.d, .int .i64 m.to.len, .int .i64 0, .int .i64 0, .int .i64 0, .int .i64 0])).run Try.prog w = .ok (m.bare && m.n == 0) w := by
  refine (eqv_mo m ⟨m.kind, m.frm, m.to, 0, 0, 0, 0⟩ w).trans ?_
  congr 1
  rw [Bool.eq_iff_iff]
  simp [Mo.ext_iff', Mo.bare, and_assoc]
theorem eq_mo4 (m : Mo) (w : World) : (Op.equalIn 10000 33 (.agg #[.int .i64 m.kind, .int .i64 m.frm.base.k, .int .i64 m.frm.base.a, .int .i64 m.frm.base.b, .int .i64 m.frm.base.c, .int .i64 m.frm.base.d, .int .i64 m.frm.len, .int .i64 m.to.base.k, .int .i64 m.to.base.a, .int .i64 m.to.base.b, .int .i64 m.to.base.c, .int .i64 m.to.base.d, .int .i64 m.to.len, .int .i64 m.proto, .int .i64 m.lo, .int .i64 m.hi, .int .i64 m.n]) (.agg #[.int .i64 m.kind, .int .i64 0, .int .i64 0, .int .i64 0, .int .i64 0, .int .i64 0, .int .i64 0, .int .i64 0, .int .i64 0, .int .i64 0, .int .i64 0, .int .i64 0, .int .i64 0, .int .i64 0, .int .i64 0, .int .i64 0, .int .i64 0])).run Try.prog w = .ok (m.anys && m.bare && m.n == 0) w := by
  refine (eqv_mo m ⟨m.kind, Pf.zero, Pf.zero, 0, 0, 0, 0⟩ w).trans ?_
  congr 1
  rw [Bool.eq_iff_iff]
  simp [Mo.ext_iff', Mo.bare, Mo.anys, and_assoc]
theorem eq_mo5 (m : Mo) (w : World) : (Op.equalIn 10000 33 (.agg #[.int .i64 m.kind, .int .i64 m.frm.base.k, .int .i64 m.frm.base.a, .int .i64 m.frm.base.b, .int .i64 m.frm.base.c, .int .i64 m.frm.base.d, .int .i64 m.frm.len, .int .i64 m.to.base.k, .int .i64 m.to.base.a, .int .i64 m.to.base.b, .int .i64 m.to.base.c, .int .i64 m.to.base.d, .int .i64 m.to.len, .int .i64 m.proto, .int .i64 m.lo, .int .i64 m.hi, .int .i64 m.n]) (.agg #[.int .i64 m.kind, .int .i64 0, .int .i64 0, .int .i64 0, .int .i64 0, .int .i64 0, .int .i64 0, .int .i64 0, .int .i64 0, .int .i64 0, .int .i64 0, .int .i64 0, .int .i64 0, .int .i64 0, .int .i64 0, .int .i64 0, .int .i64 m.n])).run Try.prog w = .ok (m.anys && m.bare) w := by
  refine (eqv_mo m ⟨m.kind, Pf.zero, Pf.zero, 0, 0, 0, m.n⟩ w).trans ?_
  congr 1
  rw [Bool.eq_iff_iff]
  simp [Mo.ext_iff', Mo.bare, Mo.anys, and_assoc]


set_option maxHeartbeats 2000000 in
theorem natI_1 (p q : Pf) (w : World) (h1 : p.ok = false) : Calls Try.prog 75 #[.agg #[.int .i64 p.base.k, .int .i64 p.base.a, .int .i64 p.base.b, .int .i64 p.base.c, .int .i64 p.base.d, .int .i64 p.len], .agg #[.int .i64 q.base.k, .int .i64 q.base.a, .int .i64 q.base.b, .int .i64 q.base.c, .int .i64 q.base.d, .int .i64 q.len]] w fun e w' => e = .returned (.bool (twins p q)) ∧ Below w.heap.size w w' := by
  have HR := Lib.hid (show twins p q = false from by simp [twins, *])
  have H1 := Lib.hid h1
  clear h1
  go_enter Try.func75, Try.ntmps75
  go_wp2_with fail
  refine Calls.mono (pfxIB p false H1.out _) ?_
  rintro e w1 ⟨rfl, b1⟩
  have q1 := Lib.hid (K.on b1 (g := w.heap.size) (by first | (simp; done) | (simp; omega)) (o := .cells #[.int .i64 p.base.k, .int .i64 p.base.a, .int .i64 p.base.b, .int .i64 p.base.c, .int .i64 p.base.d, .int .i64 p.len] 31) (K.oldAt (by first | (simp; done) | (simp; omega)) (K.newAt rfl)))
  have s1 := Lib.hid (K.on b1 (g := w.heap.size + 1) (by first | (simp; done) | (simp; omega)) (o := .cells #[.int .i64 q.base.k, .int .i64 q.base.a, .int .i64 q.base.b, .int .i64 q.base.c, .int .i64 q.base.d, .int .i64 q.len] 31) (K.newAt (by simp)))
  have B1 := Lib.hid (bthen (Joins.below_alloc2 w _ _) b1)
  clear b1
  have c0 := K.cell q1.out 0 _ rfl
  have d0 := K.cell s1.out 0 _ rfl
  have c1 := K.cell q1.out 1 _ rfl
  have d1 := K.cell s1.out 1 _ rfl
  have c2 := K.cell q1.out 2 _ rfl
  have d2 := K.cell s1.out 2 _ rfl
  have c3 := K.cell q1.out 3 _ rfl
  have d3 := K.cell s1.out 3 _ rfl
  have c4 := K.cell q1.out 4 _ rfl
  have d4 := K.cell s1.out 4 _ rfl
  have c5 := K.cell q1.out 5 _ rfl
  have d5 := K.cell s1.out 5 _ rfl
  go_wp2
  all_goals (go_ret; exact ⟨ret_bool (HR.out.trans (by first | rfl | simp [*])).symm, B1.out⟩)

set_option maxHeartbeats 2000000 in
theorem natI_2 (p q : Pf) (w : World) (h1 : p.ok = true) (h2 : q.ok = false) : Calls Try.prog 75 #[.agg #[.int .i64 p.base.k, .int .i64 p.base.a, .int .i64 p.base.b, .int .i64 p.base.c, .int .i64 p.base.d, .int .i64 p.len], .agg #[.int .i64 q.base.k, .int .i64 q.base.a, .int .i64 q.base.b, .int .i64 q.base.c, .int .i64 q.base.d, .int .i64 q.len]] w fun e w' => e = .returned (.bool (twins p q)) ∧ Below w.heap.size w w' := by
  have HR := Lib.hid (show twins p q = false from by simp [twins, *])
  have H1 := Lib.hid h1
  have H2 := Lib.hid h2
  clear h1 h2
  go_enter Try.func75, Try.ntmps75
  go_wp2_with fail
  refine Calls.mono (pfxIB p true H1.out _) ?_
  rintro e w1 ⟨rfl, b1⟩
  have q1 := Lib.hid (K.on b1 (g := w.heap.size) (by first | (simp; done) | (simp; omega)) (o := .cells #[.int .i64 p.base.k, .int .i64 p.base.a, .int .i64 p.base.b, .int .i64 p.base.c, .int .i64 p.base.d, .int .i64 p.len] 31) (K.oldAt (by first | (simp; done) | (simp; omega)) (K.newAt rfl)))
  have s1 := Lib.hid (K.on b1 (g := w.heap.size + 1) (by first | (simp; done) | (simp; omega)) (o := .cells #[.int .i64 q.base.k, .int .i64 q.base.a, .int .i64 q.base.b, .int .i64 q.base.c, .int .i64 q.base.d, .int .i64 q.len] 31) (K.newAt (by simp)))
  have B1 := Lib.hid (bthen (Joins.below_alloc2 w _ _) b1)
  clear b1
  have c0 := K.cell q1.out 0 _ rfl
  have d0 := K.cell s1.out 0 _ rfl
  have c1 := K.cell q1.out 1 _ rfl
  have d1 := K.cell s1.out 1 _ rfl
  have c2 := K.cell q1.out 2 _ rfl
  have d2 := K.cell s1.out 2 _ rfl
  have c3 := K.cell q1.out 3 _ rfl
  have d3 := K.cell s1.out 3 _ rfl
  have c4 := K.cell q1.out 4 _ rfl
  have d4 := K.cell s1.out 4 _ rfl
  have c5 := K.cell q1.out 5 _ rfl
  have d5 := K.cell s1.out 5 _ rfl
  go_wp2_with fail
  refine Calls.mono (pfxIB q false H2.out _) ?_
  rintro e w2 ⟨rfl, b2⟩
  have q2 := Lib.hid (K.below b2 q1.out)
  have s2 := Lib.hid (K.below b2 s1.out)
  have B2 := Lib.hid (bthen B1.out b2)
  clear c0 d0 c1 d1 c2 d2 c3 d3 c4 d4 c5 d5
  clear b2
  have c0 := K.cell q2.out 0 _ rfl
  have d0 := K.cell s2.out 0 _ rfl
  have c1 := K.cell q2.out 1 _ rfl
  have d1 := K.cell s2.out 1 _ rfl
  have c2 := K.cell q2.out 2 _ rfl
  have d2 := K.cell s2.out 2 _ rfl
  have c3 := K.cell q2.out 3 _ rfl
  have d3 := K.cell s2.out 3 _ rfl
  have c4 := K.cell q2.out 4 _ rfl
  have d4 := K.cell s2.out 4 _ rfl
  have c5 := K.cell q2.out 5 _ rfl
  have d5 := K.cell s2.out 5 _ rfl
  go_wp2
  all_goals (go_ret; exact ⟨ret_bool (HR.out.trans (by first | rfl | simp [*])).symm, B2.out⟩)

set_option maxHeartbeats 2000000 in
theorem natI_3 (p q : Pf) (w : World) (h1 : p.ok = true) (h2 : q.ok = true) (h3 : pairA p.base q.base = false) : Calls Try.prog 75 #[.agg #[.int .i64 p.base.k, .int .i64 p.base.a, .int .i64 p.base.b, .int .i64 p.base.c, .int .i64 p.base.d, .int .i64 p.len], .agg #[.int .i64 q.base.k, .int .i64 q.base.a, .int .i64 q.base.b, .int .i64 q.base.c, .int .i64 q.base.d, .int .i64 q.len]] w fun e w' => e = .returned (.bool (twins p q)) ∧ Below w.heap.size w w' := by
  have HR := Lib.hid (show twins p q = false from by simp [twins, *])
  have H1 := Lib.hid h1
  have H2 := Lib.hid h2
  have H3 := Lib.hid h3
  clear h1 h2 h3
  go_enter Try.func75, Try.ntmps75
  go_wp2_with fail
  refine Calls.mono (pfxIB p true H1.out _) ?_
  rintro e w1 ⟨rfl, b1⟩
  have q1 := Lib.hid (K.on b1 (g := w.heap.size) (by first | (simp; done) | (simp; omega)) (o := .cells #[.int .i64 p.base.k, .int .i64 p.base.a, .int .i64 p.base.b, .int .i64 p.base.c, .int .i64 p.base.d, .int .i64 p.len] 31) (K.oldAt (by first | (simp; done) | (simp; omega)) (K.newAt rfl)))
  have s1 := Lib.hid (K.on b1 (g := w.heap.size + 1) (by first | (simp; done) | (simp; omega)) (o := .cells #[.int .i64 q.base.k, .int .i64 q.base.a, .int .i64 q.base.b, .int .i64 q.base.c, .int .i64 q.base.d, .int .i64 q.len] 31) (K.newAt (by simp)))
  have B1 := Lib.hid (bthen (Joins.below_alloc2 w _ _) b1)
  clear b1
  have c0 := K.cell q1.out 0 _ rfl
  have d0 := K.cell s1.out 0 _ rfl
  have c1 := K.cell q1.out 1 _ rfl
  have d1 := K.cell s1.out 1 _ rfl
  have c2 := K.cell q1.out 2 _ rfl
  have d2 := K.cell s1.out 2 _ rfl
  have c3 := K.cell q1.out 3 _ rfl
  have d3 := K.cell s1.out 3 _ rfl
  have c4 := K.cell q1.out 4 _ rfl
  have d4 := K.cell s1.out 4 _ rfl
  have c5 := K.cell q1.out 5 _ rfl
  have d5 := K.cell s1.out 5 _ rfl
  go_wp2_with fail
  refine Calls.mono (pfxIB q true H2.out _) ?_
  rintro e w2 ⟨rfl, b2⟩
  have q2 := Lib.hid (K.below b2 q1.out)
  have s2 := Lib.hid (K.below b2 s1.out)
  have B2 := Lib.hid (bthen B1.out b2)
  clear c0 d0 c1 d1 c2 d2 c3 d3 c4 d4 c5 d5
  clear b2
  have c0 := K.cell q2.out 0 _ rfl
  have d0 := K.cell s2.out 0 _ rfl
  have c1 := K.cell q2.out 1 _ rfl
  have d1 := K.cell s2.out 1 _ rfl
  have c2 := K.cell q2.out 2 _ rfl
  have d2 := K.cell s2.out 2 _ rfl
  have c3 := K.cell q2.out 3 _ rfl
  have d3 := K.cell s2.out 3 _ rfl
  have c4 := K.cell q2.out 4 _ rfl
  have d4 := K.cell s2.out 4 _ rfl
  have c5 := K.cell q2.out 5 _ rfl
  have d5 := K.cell s2.out 5 _ rfl
  go_wp2_with fail
  refine Calls.mono (pairIB p.base q.base false H3.out _) ?_
  rintro e w3 ⟨rfl, b3⟩
  have q3 := Lib.hid (K.below b3 q2.out)
  have s3 := Lib.hid (K.below b3 s2.out)
  have B3 := Lib.hid (bthen B2.out b3)
  clear c0 d0 c1 d1 c2 d2 c3 d3 c4 d4 c5 d5
  clear b3
  have c0 := K.cell q3.out 0 _ rfl
  have d0 := K.cell s3.out 0 _ rfl
  have c1 := K.cell q3.out 1 _ rfl
  have d1 := K.cell s3.out 1 _ rfl
  have c2 := K.cell q3.out 2 _ rfl
  have d2 := K.cell s3.out 2 _ rfl
  have c3 := K.cell q3.out 3 _ rfl
  have d3 := K.cell s3.out 3 _ rfl
  have c4 := K.cell q3.out 4 _ rfl
  have d4 := K.cell s3.out 4 _ rfl
  have c5 := K.cell q3.out 5 _ rfl
  have d5 := K.cell s3.out 5 _ rfl
  go_wp2
  all_goals (go_ret; exact ⟨ret_bool (HR.out.trans (by first | rfl | simp [*])).symm, B3.out⟩)

set_option maxHeartbeats 2000000 in
theorem natI_4 (p q : Pf) (w : World) (h1 : p.ok = true) (h2 : q.ok = true) (h3 : pairA p.base q.base = true) : Calls Try.prog 75 #[.agg #[.int .i64 p.base.k, .int .i64 p.base.a, .int .i64 p.base.b, .int .i64 p.base.c, .int .i64 p.base.d, .int .i64 p.len], .agg #[.int .i64 q.base.k, .int .i64 q.base.a, .int .i64 q.base.b, .int .i64 q.base.c, .int .i64 q.base.d, .int .i64 q.len]] w fun e w' => e = .returned (.bool (twins p q)) ∧ Below w.heap.size w w' := by
  have HR := Lib.hid (show twins p q = decide (p.len = q.len) from by simp [twins, *])
  have H1 := Lib.hid h1
  have H2 := Lib.hid h2
  have H3 := Lib.hid h3
  clear h1 h2 h3
  go_enter Try.func75, Try.ntmps75
  go_wp2_with fail
  refine Calls.mono (pfxIB p true H1.out _) ?_
  rintro e w1 ⟨rfl, b1⟩
  have q1 := Lib.hid (K.on b1 (g := w.heap.size) (by first | (simp; done) | (simp; omega)) (o := .cells #[.int .i64 p.base.k, .int .i64 p.base.a, .int .i64 p.base.b, .int .i64 p.base.c, .int .i64 p.base.d, .int .i64 p.len] 31) (K.oldAt (by first | (simp; done) | (simp; omega)) (K.newAt rfl)))
  have s1 := Lib.hid (K.on b1 (g := w.heap.size + 1) (by first | (simp; done) | (simp; omega)) (o := .cells #[.int .i64 q.base.k, .int .i64 q.base.a, .int .i64 q.base.b, .int .i64 q.base.c, .int .i64 q.base.d, .int .i64 q.len] 31) (K.newAt (by simp)))
  have B1 := Lib.hid (bthen (Joins.below_alloc2 w _ _) b1)
  clear b1
  have c0 := K.cell q1.out 0 _ rfl
  have d0 := K.cell s1.out 0 _ rfl
  have c1 := K.cell q1.out 1 _ rfl
  have d1 := K.cell s1.out 1 _ rfl
  have c2 := K.cell q1.out 2 _ rfl
  have d2 := K.cell s1.out 2 _ rfl
  have c3 := K.cell q1.out 3 _ rfl
  have d3 := K.cell s1.out 3 _ rfl
  have c4 := K.cell q1.out 4 _ rfl
  have d4 := K.cell s1.out 4 _ rfl
  have c5 := K.cell q1.out 5 _ rfl
  have d5 := K.cell s1.out 5 _ rfl
  go_wp2_with fail
  refine Calls.mono (pfxIB q true H2.out _) ?_
  rintro e w2 ⟨rfl, b2⟩
  have q2 := Lib.hid (K.below b2 q1.out)
  have s2 := Lib.hid (K.below b2 s1.out)
  have B2 := Lib.hid (bthen B1.out b2)
  clear c0 d0 c1 d1 c2 d2 c3 d3 c4 d4 c5 d5
  clear b2
  have c0 := K.cell q2.out 0 _ rfl
  have d0 := K.cell s2.out 0 _ rfl
  have c1 := K.cell q2.out 1 _ rfl
  have d1 := K.cell s2.out 1 _ rfl
  have c2 := K.cell q2.out 2 _ rfl
  have d2 := K.cell s2.out 2 _ rfl
  have c3 := K.cell q2.out 3 _ rfl
  have d3 := K.cell s2.out 3 _ rfl
  have c4 := K.cell q2.out 4 _ rfl
  have d4 := K.cell s2.out 4 _ rfl
  have c5 := K.cell q2.out 5 _ rfl
  have d5 := K.cell s2.out 5 _ rfl
  go_wp2_with fail
  refine Calls.mono (pairIB p.base q.base true H3.out _) ?_
  rintro e w3 ⟨rfl, b3⟩
  have q3 := Lib.hid (K.below b3 q2.out)
  have s3 := Lib.hid (K.below b3 s2.out)
  have B3 := Lib.hid (bthen B2.out b3)
  clear c0 d0 c1 d1 c2 d2 c3 d3 c4 d4 c5 d5
  clear b3
  have c0 := K.cell q3.out 0 _ rfl
  have d0 := K.cell s3.out 0 _ rfl
  have c1 := K.cell q3.out 1 _ rfl
  have d1 := K.cell s3.out 1 _ rfl
  have c2 := K.cell q3.out 2 _ rfl
  have d2 := K.cell s3.out 2 _ rfl
  have c3 := K.cell q3.out 3 _ rfl
  have d3 := K.cell s3.out 3 _ rfl
  have c4 := K.cell q3.out 4 _ rfl
  have d4 := K.cell s3.out 4 _ rfl
  have c5 := K.cell q3.out 5 _ rfl
  have d5 := K.cell s3.out 5 _ rfl
  go_wp2
  all_goals (go_ret; exact ⟨ret_bool (HR.out.trans (by first | rfl | simp [*])).symm, B3.out⟩)

theorem natI (p q : Pf) (w : World) : Calls Try.prog 75 #[.agg #[.int .i64 p.base.k, .int .i64 p.base.a, .int .i64 p.base.b, .int .i64 p.base.c, .int .i64 p.base.d, .int .i64 p.len], .agg #[.int .i64 q.base.k, .int .i64 q.base.a, .int .i64 q.base.b, .int .i64 q.base.c, .int .i64 q.base.d, .int .i64 q.len]] w fun e w' => e = .returned (.bool (twins p q)) ∧ Below w.heap.size w w' := by
  cases h1 : p.ok with
  | false => exact natI_1 p q w h1
  | true =>
    cases h2 : q.ok with
    | false => exact natI_2 p q w h1 h2
    | true =>
      cases h3 : pairA p.base q.base with
      | false => exact natI_3 p q w h1 h2 h3
      | true => exact natI_4 p q w h1 h2 h3
theorem natIB (p q : Pf) (b : Bool) (h : twins p q = b) (w : World) : Calls Try.prog 75 #[.agg #[.int .i64 p.base.k, .int .i64 p.base.a, .int .i64 p.base.b, .int .i64 p.base.c, .int .i64 p.base.d, .int .i64 p.len], .agg #[.int .i64 q.base.k, .int .i64 q.base.a, .int .i64 q.base.b, .int .i64 q.base.c, .int .i64 q.base.d, .int .i64 q.len]] w fun e w' => e = .returned (.bool b) ∧ Below w.heap.size w w' := h ▸ natI p q w
end Go.Proofs.Ytdndanbalmoklaa
