/-
  NatAddr in the program.
-/
import Derived.Test.YtdndanbalmoklaaNatLib
import Derived.Test.YtdndanbalmoklaaMoOkI0
import Derived.Test.YtdndanbalmoklaaPfxHas
import Derived.Test.YtdndanbalmoklaaCut
import Derived.Test.YtdndanbalmoklaaCells19
namespace Go.Proofs.Ytdndanbalmoklaa
set_option maxRecDepth 100000
open Go.RowKit

theorem hasNB (p : Pf) (y : Ad) (b : Bool) (h : p.has y = b) (w : World) : Calls Try.prog 84 #[.agg #[.int .i64 p.base.k, .int .i64 p.base.a, .int .i64 p.base.b, .int .i64 p.base.c, .int .i64 p.base.d, .int .i64 p.len], .agg #[.int .i64 y.k, .int .i64 y.a, .int .i64 y.b, .int .i64 y.c, .int .i64 y.d]] w fun e w' => e = .returned (.bool b) ∧ Below w.heap.size w w' := h ▸ implPrefixHas p y w

set_option maxHeartbeats 2000000 in
theorem natI_no1 (p q : Pf) (a : Ad) (h1 : twins p q = false) (w : World) : Calls Try.prog 26 #[.agg #[.int .i64 p.base.k, .int .i64 p.base.a, .int .i64 p.base.b, .int .i64 p.base.c, .int .i64 p.base.d, .int .i64 p.len], .agg #[.int .i64 q.base.k, .int .i64 q.base.a, .int .i64 q.base.b, .int .i64 q.base.c, .int .i64 q.base.d, .int .i64 q.len], .agg #[.int .i64 a.k, .int .i64 a.a, .int .i64 a.b, .int .i64 a.c, .int .i64 a.d]] w fun e w' => e = .returned (.agg #[.int .i64 0, .int .i64 0, .int .i64 0, .int .i64 0, .int .i64 0]) ∧ Below w.heap.size w w' := by
  have H1 := Lib.hid h1
  clear h1
  go_enter Try.func26, Try.ntmps26
  go_wp2_with fail
  refine Calls.mono (natIB p q false H1.out _) ?_
  rintro e w1 ⟨rfl, b1⟩
  have p1 := Lib.hid (K.on b1 (g := w.heap.size) (by first | (simp; done) | (simp; omega)) (o := .cells #[.int .i64 p.base.k, .int .i64 p.base.a, .int .i64 p.base.b, .int .i64 p.base.c, .int .i64 p.base.d, .int .i64 p.len] 31) (K.oldAt (by first | (simp; done) | (simp; omega)) (K.oldAt (by first | (simp; done) | (simp; omega)) (K.oldAt (by first | (simp; done) | (simp; omega)) (K.newAt rfl)))))
  have q1 := Lib.hid (K.on b1 (g := w.heap.size + 1) (by first | (simp; done) | (simp; omega)) (o := .cells #[.int .i64 q.base.k, .int .i64 q.base.a, .int .i64 q.base.b, .int .i64 q.base.c, .int .i64 q.base.d, .int .i64 q.len] 31) (K.oldAt (by first | (simp; done) | (simp; omega)) (K.oldAt (by first | (simp; done) | (simp; omega)) (K.newAt (by simp)))))
  have a1 := Lib.hid (K.on b1 (g := w.heap.size + 1 + 1) (by first | (simp; done) | (simp; omega)) (o := .cells #[.int .i64 a.k, .int .i64 a.a, .int .i64 a.b, .int .i64 a.c, .int .i64 a.d] 29) (K.oldAt (by first | (simp; done) | (simp; omega)) (K.newAt (by simp))))
  have u1 := Lib.hid (K.on b1 (g := w.heap.size + 1 + 1 + 1) (by first | (simp; done) | (simp; omega)) (o := .cells #[.int .i64 0, .int .i64 0, .int .i64 0, .int .i64 0, .int .i64 0] 29) (K.newAt (by simp)))
  have B1 := Lib.hid (show Below w.heap.size w w1 from bthen (by go_grown) b1)
  clear b1
  obtain ⟨⟨z0, z1, z2, z3, z4⟩, f0, f1, f2, f3, f4⟩ := row5 u1.out
  go_wp2
  (try simp only [Exit.inBlock, Exit.then])
  refine bodyPost_ret (v := .agg #[.int .i64 0, .int .i64 0, .int .i64 0, .int .i64 0, .int .i64 0]) ?_ rfl ⟨rfl, by have := B1.out; go_grown⟩
  refine res_cell Try.results26 _ _ _ (w.heap.size + 1 + 1 + 1) _ ?_ (run_loadVar_row _ _ 29 29 _ (0, 0) _ (set5 _ _ _ _ _ u1.out) Try.underlying29 rfl info_addr)
  rfl

set_option maxHeartbeats 2000000 in
theorem natI_no2 (p q : Pf) (a : Ad) (h1 : twins p q = true) (h2 : p.has a = false) (w : World) : Calls Try.prog 26 #[.agg #[.int .i64 p.base.k, .int .i64 p.base.a, .int .i64 p.base.b, .int .i64 p.base.c, .int .i64 p.base.d, .int .i64 p.len], .agg #[.int .i64 q.base.k, .int .i64 q.base.a, .int .i64 q.base.b, .int .i64 q.base.c, .int .i64 q.base.d, .int .i64 q.len], .agg #[.int .i64 a.k, .int .i64 a.a, .int .i64 a.b, .int .i64 a.c, .int .i64 a.d]] w fun e w' => e = .returned (.agg #[.int .i64 0, .int .i64 0, .int .i64 0, .int .i64 0, .int .i64 0]) ∧ Below w.heap.size w w' := by
  have H1 := Lib.hid h1
  have H2 := Lib.hid h2
  clear h1 h2
  go_enter Try.func26, Try.ntmps26
  go_wp2_with fail
  refine Calls.mono (natIB p q true H1.out _) ?_
  rintro e w1 ⟨rfl, b1⟩
  have p1 := Lib.hid (K.on b1 (g := w.heap.size) (by first | (simp; done) | (simp; omega)) (o := .cells #[.int .i64 p.base.k, .int .i64 p.base.a, .int .i64 p.base.b, .int .i64 p.base.c, .int .i64 p.base.d, .int .i64 p.len] 31) (K.oldAt (by first | (simp; done) | (simp; omega)) (K.oldAt (by first | (simp; done) | (simp; omega)) (K.oldAt (by first | (simp; done) | (simp; omega)) (K.newAt rfl)))))
  have q1 := Lib.hid (K.on b1 (g := w.heap.size + 1) (by first | (simp; done) | (simp; omega)) (o := .cells #[.int .i64 q.base.k, .int .i64 q.base.a, .int .i64 q.base.b, .int .i64 q.base.c, .int .i64 q.base.d, .int .i64 q.len] 31) (K.oldAt (by first | (simp; done) | (simp; omega)) (K.oldAt (by first | (simp; done) | (simp; omega)) (K.newAt (by simp)))))
  have a1 := Lib.hid (K.on b1 (g := w.heap.size + 1 + 1) (by first | (simp; done) | (simp; omega)) (o := .cells #[.int .i64 a.k, .int .i64 a.a, .int .i64 a.b, .int .i64 a.c, .int .i64 a.d] 29) (K.oldAt (by first | (simp; done) | (simp; omega)) (K.newAt (by simp))))
  have u1 := Lib.hid (K.on b1 (g := w.heap.size + 1 + 1 + 1) (by first | (simp; done) | (simp; omega)) (o := .cells #[.int .i64 0, .int .i64 0, .int .i64 0, .int .i64 0, .int .i64 0] 29) (K.newAt (by simp)))
  have B1 := Lib.hid (show Below w.heap.size w w1 from bthen (by go_grown) b1)
  clear b1
  have c0 := K.cell p1.out 0 _ rfl
  have c1 := K.cell p1.out 1 _ rfl
  have c2 := K.cell p1.out 2 _ rfl
  have c3 := K.cell p1.out 3 _ rfl
  have c4 := K.cell p1.out 4 _ rfl
  have c5 := K.cell p1.out 5 _ rfl
  have d0 := K.cell a1.out 0 _ rfl
  have d1 := K.cell a1.out 1 _ rfl
  have d2 := K.cell a1.out 2 _ rfl
  have d3 := K.cell a1.out 3 _ rfl
  have d4 := K.cell a1.out 4 _ rfl
  go_wp2_with fail
  refine Calls.mono (hasNB p a false H2.out _) ?_
  rintro e w2 ⟨rfl, b2⟩
  have p2 := Lib.hid (K.below b2 p1.out)
  have q2 := Lib.hid (K.below b2 q1.out)
  have a2 := Lib.hid (K.below b2 a1.out)
  have u2 := Lib.hid (K.below b2 u1.out)
  have B2 := Lib.hid (bthen B1.out b2)
  clear b2 p1 q1 a1 u1 B1
  clear c0 c1 c2 c3 c4 c5 d0 d1 d2 d3 d4
  obtain ⟨⟨z0, z1, z2, z3, z4⟩, f0, f1, f2, f3, f4⟩ := row5 u2.out
  go_wp2
  (try simp only [Exit.inBlock, Exit.then])
  refine bodyPost_ret (v := .agg #[.int .i64 0, .int .i64 0, .int .i64 0, .int .i64 0, .int .i64 0]) ?_ rfl ⟨rfl, by have := B2.out; go_grown⟩
  refine res_cell Try.results26 _ _ _ (w.heap.size + 1 + 1 + 1) _ ?_ (run_loadVar_row _ _ 29 29 _ (0, 0) _ (set5 _ _ _ _ _ u2.out) Try.underlying29 rfl info_addr)
  rfl

set_option maxHeartbeats 2000000 in
theorem natI_yes (p q : Pf) (a : Ad) (h1 : twins p q = true) (h2 : p.has a = true) (w : World) : Calls Try.prog 26 #[.agg #[.int .i64 p.base.k, .int .i64 p.base.a, .int .i64 p.base.b, .int .i64 p.base.c, .int .i64 p.base.d, .int .i64 p.len], .agg #[.int .i64 q.base.k, .int .i64 q.base.a, .int .i64 q.base.b, .int .i64 q.base.c, .int .i64 q.base.d, .int .i64 q.len], .agg #[.int .i64 a.k, .int .i64 a.a, .int .i64 a.b, .int .i64 a.c, .int .i64 a.d]] w fun e w' => e = .returned (.agg #[.int .i64 a.k, .int .i64 (a.a - p.base.a + q.base.a), .int .i64 (a.b - p.base.b + q.base.b), .int .i64 (a.c - p.base.c + q.base.c), .int .i64 (a.d - p.base.d + q.base.d)]) ∧ Below w.heap.size w w' := by
  obtain ⟨x1, x2, x3, x4, x5, x6, x7, x8, x9, x10, x11, x12⟩ := natA_ok h1 h2
  obtain ⟨l1, r1⟩ := x1
  obtain ⟨l2, r2⟩ := x2
  obtain ⟨l3, r3⟩ := x3
  obtain ⟨l4, r4⟩ := x4
  obtain ⟨l5, r5⟩ := x5
  obtain ⟨l6, r6⟩ := x6
  obtain ⟨l7, r7⟩ := x7
  obtain ⟨l8, r8⟩ := x8
  obtain ⟨l9, r9⟩ := x9
  obtain ⟨l10, r10⟩ := x10
  obtain ⟨l11, r11⟩ := x11
  obtain ⟨l12, r12⟩ := x12
  have H1 := Lib.hid h1
  have H2 := Lib.hid h2
  clear h1 h2
  go_enter Try.func26, Try.ntmps26
  go_wp2_with fail
  refine Calls.mono (natIB p q true H1.out _) ?_
  rintro e w1 ⟨rfl, b1⟩
  have p1 := Lib.hid (K.on b1 (g := w.heap.size) (by first | (simp; done) | (simp; omega)) (o := .cells #[.int .i64 p.base.k, .int .i64 p.base.a, .int .i64 p.base.b, .int .i64 p.base.c, .int .i64 p.base.d, .int .i64 p.len] 31) (K.oldAt (by first | (simp; done) | (simp; omega)) (K.oldAt (by first | (simp; done) | (simp; omega)) (K.oldAt (by first | (simp; done) | (simp; omega)) (K.newAt rfl)))))
  have q1 := Lib.hid (K.on b1 (g := w.heap.size + 1) (by first | (simp; done) | (simp; omega)) (o := .cells #[.int .i64 q.base.k, .int .i64 q.base.a, .int .i64 q.base.b, .int .i64 q.base.c, .int .i64 q.base.d, .int .i64 q.len] 31) (K.oldAt (by first | (simp; done) | (simp; omega)) (K.oldAt (by first | (simp; done) | (simp; omega)) (K.newAt (by simp)))))
  have a1 := Lib.hid (K.on b1 (g := w.heap.size + 1 + 1) (by first | (simp; done) | (simp; omega)) (o := .cells #[.int .i64 a.k, .int .i64 a.a, .int .i64 a.b, .int .i64 a.c, .int .i64 a.d] 29) (K.oldAt (by first | (simp; done) | (simp; omega)) (K.newAt (by simp))))
  have u1 := Lib.hid (K.on b1 (g := w.heap.size + 1 + 1 + 1) (by first | (simp; done) | (simp; omega)) (o := .cells #[.int .i64 0, .int .i64 0, .int .i64 0, .int .i64 0, .int .i64 0] 29) (K.newAt (by simp)))
  have B1 := Lib.hid (show Below w.heap.size w w1 from bthen (by go_grown) b1)
  clear b1
  have c0 := K.cell p1.out 0 _ rfl
  have c1 := K.cell p1.out 1 _ rfl
  have c2 := K.cell p1.out 2 _ rfl
  have c3 := K.cell p1.out 3 _ rfl
  have c4 := K.cell p1.out 4 _ rfl
  have c5 := K.cell p1.out 5 _ rfl
  have d0 := K.cell a1.out 0 _ rfl
  have d1 := K.cell a1.out 1 _ rfl
  have d2 := K.cell a1.out 2 _ rfl
  have d3 := K.cell a1.out 3 _ rfl
  have d4 := K.cell a1.out 4 _ rfl
  go_wp2_with fail
  refine Calls.mono (hasNB p a true H2.out _) ?_
  rintro e w2 ⟨rfl, b2⟩
  have p2 := Lib.hid (K.below b2 p1.out)
  have q2 := Lib.hid (K.below b2 q1.out)
  have a2 := Lib.hid (K.below b2 a1.out)
  have u2 := Lib.hid (K.below b2 u1.out)
  have B2 := Lib.hid (bthen B1.out b2)
  clear b2 p1 q1 a1 u1 B1
  clear c0 c1 c2 c3 c4 c5 d0 d1 d2 d3 d4
  obtain ⟨⟨z0, z1, z2, z3, z4⟩, f0, f1, f2, f3, f4⟩ := row5 u2.out
  have c0 := K.cell p2.out 0 _ rfl
  have c1 := K.cell p2.out 1 _ rfl
  have c2 := K.cell p2.out 2 _ rfl
  have c3 := K.cell p2.out 3 _ rfl
  have c4 := K.cell p2.out 4 _ rfl
  have c5 := K.cell p2.out 5 _ rfl
  have d0 := K.cell a2.out 0 _ rfl
  have d1 := K.cell a2.out 1 _ rfl
  have d2 := K.cell a2.out 2 _ rfl
  have d3 := K.cell a2.out 3 _ rfl
  have d4 := K.cell a2.out 4 _ rfl
  have e0 := K.cell q2.out 0 _ rfl
  have e1 := K.cell q2.out 1 _ rfl
  have e2 := K.cell q2.out 2 _ rfl
  have e3 := K.cell q2.out 3 _ rfl
  have e4 := K.cell q2.out 4 _ rfl
  go_wp2
  (try simp only [Exit.inBlock, Exit.then])
  refine bodyPost_ret (v := .agg #[.int .i64 a.k, .int .i64 (a.a - p.base.a + q.base.a), .int .i64 (a.b - p.base.b + q.base.b), .int .i64 (a.c - p.base.c + q.base.c), .int .i64 (a.d - p.base.d + q.base.d)]) ?_ rfl ⟨rfl, by have := B2.out; go_grown⟩
  refine res_cell Try.results26 _ _ _ (w.heap.size + 1 + 1 + 1) _ ?_ (run_loadVar_row _ _ 29 29 _ (0, 0) _ (set5 _ _ _ _ _ u2.out) Try.underlying29 rfl info_addr)
  rfl

theorem natAddrI (p q : Pf) (a : Ad) (w : World) : Calls Try.prog 26 #[.agg #[.int .i64 p.base.k, .int .i64 p.base.a, .int .i64 p.base.b, .int .i64 p.base.c, .int .i64 p.base.d, .int .i64 p.len], .agg #[.int .i64 q.base.k, .int .i64 q.base.a, .int .i64 q.base.b, .int .i64 q.base.c, .int .i64 q.base.d, .int .i64 q.len], .agg #[.int .i64 a.k, .int .i64 a.a, .int .i64 a.b, .int .i64 a.c, .int .i64 a.d]] w fun e w' => e = .returned (.agg #[.int .i64 (natA p q a).k, .int .i64 (natA p q a).a, .int .i64 (natA p q a).b, .int .i64 (natA p q a).c, .int .i64 (natA p q a).d]) ∧ Below w.heap.size w w' := by
  cases h1 : twins p q with
  | false =>
    rw [natA_no1 h1]
    exact natI_no1 p q a h1 w
  | true =>
    cases h2 : p.has a with
    | false =>
      rw [natA_no2 h2]
      exact natI_no2 p q a h1 h2 w
    | true =>
      rw [natA_yes h1 h2]
      exact natI_yes p q a h1 h2 w
end Go.Proofs.Ytdndanbalmoklaa
