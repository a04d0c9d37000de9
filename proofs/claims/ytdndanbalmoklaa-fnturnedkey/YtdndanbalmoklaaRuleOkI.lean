/-
  RuleOk in the program.
-/
import Derived.Test.YtdndanbalmoklaaRule
import Derived.Test.YtdndanbalmoklaaPfx
import Derived.Test.YtdndanbalmoklaaBe
namespace Go.Proofs.Ytdndanbalmoklaa
set_option maxRecDepth 100000
open Go.RowKit


theorem ruleW (lo n hi : Int) (b : Bool) (h : btw lo n hi = b) (w : World) : Calls Try.prog 76 #[.int .i64 n, .int .i64 lo, .int .i64 hi] w fun e w' => e = .returned (.bool b) ∧ Below w.heap.size w w' := by
  subst h
  by_cases h1 : lo ≤ n
  · by_cases h2 : n ≤ hi
    · exact (within_yes n lo hi w h1 h2).mono fun _ _ ⟨he, hw⟩ => ⟨he.trans (ret_bool (by simp [btw, h1, h2])), hw ▸ Below.refl _ _⟩
    · exact (within_no n lo hi w (by omega)).mono fun _ _ ⟨he, hw⟩ => ⟨he.trans (ret_bool (by simp [btw, h2])), hw ▸ Below.refl _ _⟩
  · exact (within_no n lo hi w (by omega)).mono fun _ _ ⟨he, hw⟩ => ⟨he.trans (ret_bool (by simp [btw, h1])), hw ▸ Below.refl _ _⟩
theorem protoR (p : Int) (b : Bool) (w : World) (h : upTo p 255 = b) : Calls Try.prog 73 #[.int .i64 p] w fun e w' => e = .returned (.bool b) ∧ Below w.heap.size w w' := by
  have H := Lib.hid h
  clear h
  go_enter Try.func73, Try.ntmps73
  go_wp2_with fail
  refine Calls.mono (ruleW 0 p 255 b H.out _) ?_
  rintro e w1 ⟨rfl, b1⟩
  go_wp2
  go_ret
  exact ⟨rfl, b1⟩
theorem pfxIB (p : Pf) (b : Bool) (h : p.ok = b) (w : World) : Calls Try.prog 72 #[.agg #[.int .i64 p.base.k, .int .i64 p.base.a, .int .i64 p.base.b, .int .i64 p.base.c, .int .i64 p.base.d, .int .i64 p.len]] w fun e w' => e = .returned (.bool b) ∧ Below w.heap.size w w' := h ▸ implPrefixOk p w
theorem portsI (lo hi : Int) (w : World) : Calls Try.prog 74 #[.int .i64 lo, .int .i64 hi] w fun e w' => e = .returned (.bool (portsB lo hi)) ∧ Below w.heap.size w w' := by
  go_enter Try.func74, Try.ntmps74
  go_wp2
  all_goals (go_ret; exact ⟨ret_bool (by first | (simp [portsB, *]; done) | (simp [portsB, *]; omega)), by go_grown⟩)
theorem portsIB (lo hi : Int) (b : Bool) (h : portsB lo hi = b) (w : World) : Calls Try.prog 74 #[.int .i64 lo, .int .i64 hi] w fun e w' => e = .returned (.bool b) ∧ Below w.heap.size w w' := h ▸ portsI lo hi w

set_option maxHeartbeats 2000000 in
theorem ruleOkI_0 (x : Ru) (w : World) (h0 : btw 1 x.prio 9999 = false) : Calls Try.prog 92 #[.agg #[.int .i64 x.prio, .int .i64 x.src.base.k, .int .i64 x.src.base.a, .int .i64 x.src.base.b, .int .i64 x.src.base.c, .int .i64 x.src.base.d, .int .i64 x.src.len, .int .i64 x.dst.base.k, .int .i64 x.dst.base.a, .int .i64 x.dst.base.b, .int .i64 x.dst.base.c, .int .i64 x.dst.base.d, .int .i64 x.dst.len, .int .i64 x.proto, .int .i64 x.slo, .int .i64 x.shi, .int .i64 x.dlo, .int .i64 x.dhi, .int .i64 x.tenant, .int .i64 x.weight, .int .i64 x.chain]] w fun e w' => e = .returned (.bool false) ∧ Below w.heap.size w w' := by
  have q0 := Lib.hid (K.new w (.cells #[.int .i64 x.prio, .int .i64 x.src.base.k, .int .i64 x.src.base.a, .int .i64 x.src.base.b, .int .i64 x.src.base.c, .int .i64 x.src.base.d, .int .i64 x.src.len, .int .i64 x.dst.base.k, .int .i64 x.dst.base.a, .int .i64 x.dst.base.b, .int .i64 x.dst.base.c, .int .i64 x.dst.base.d, .int .i64 x.dst.len, .int .i64 x.proto, .int .i64 x.slo, .int .i64 x.shi, .int .i64 x.dlo, .int .i64 x.dhi, .int .i64 x.tenant, .int .i64 x.weight, .int .i64 x.chain] 53))
  have H0 := Lib.hid h0
  clear h0
  go_enter Try.func92, Try.ntmps92
  go_wp2_with fail
  refine Calls.mono (ruleW 1 x.prio 9999 false H0.out _) ?_
  rintro e w1 ⟨rfl, b1⟩
  have B1 := Lib.hid (bthen (Joins.below_alloc1 w _) b1)
  clear b1 
  go_wp2
  go_ret
  exact ⟨rfl, B1.out⟩

set_option maxHeartbeats 2000000 in
theorem ruleOkI_1 (x : Ru) (w : World) (h0 : btw 1 x.prio 9999 = true) (h1 : x.src.ok = false) : Calls Try.prog 92 #[.agg #[.int .i64 x.prio, .int .i64 x.src.base.k, .int .i64 x.src.base.a, .int .i64 x.src.base.b, .int .i64 x.src.base.c, .int .i64 x.src.base.d, .int .i64 x.src.len, .int .i64 x.dst.base.k, .int .i64 x.dst.base.a, .int .i64 x.dst.base.b, .int .i64 x.dst.base.c, .int .i64 x.dst.base.d, .int .i64 x.dst.len, .int .i64 x.proto, .int .i64 x.slo, .int .i64 x.shi, .int .i64 x.dlo, .int .i64 x.dhi, .int .i64 x.tenant, .int .i64 x.weight, .int .i64 x.chain]] w fun e w' => e = .returned (.bool false) ∧ Below w.heap.size w w' := by
  have q0 := Lib.hid (K.new w (.cells #[.int .i64 x.prio, .int .i64 x.src.base.k, .int .i64 x.src.base.a, .int .i64 x.src.base.b, .int .i64 x.src.base.c, .int .i64 x.src.base.d, .int .i64 x.src.len, .int .i64 x.dst.base.k, .int .i64 x.dst.base.a, .int .i64 x.dst.base.b, .int .i64 x.dst.base.c, .int .i64 x.dst.base.d, .int .i64 x.dst.len, .int .i64 x.proto, .int .i64 x.slo, .int .i64 x.shi, .int .i64 x.dlo, .int .i64 x.dhi, .int .i64 x.tenant, .int .i64 x.weight, .int .i64 x.chain] 53))
  have H0 := Lib.hid h0
  have H1 := Lib.hid h1
  clear h0 h1
  go_enter Try.func92, Try.ntmps92
  go_wp2_with fail
  refine Calls.mono (ruleW 1 x.prio 9999 true H0.out _) ?_
  rintro e w1 ⟨rfl, b1⟩
  have B1 := Lib.hid (bthen (Joins.below_alloc1 w _) b1)
  have q1 := Lib.hid (K.below b1 q0.out)
  have c1 := K.cell q1.out 1 _ rfl
  have c2 := K.cell q1.out 2 _ rfl
  have c3 := K.cell q1.out 3 _ rfl
  have c4 := K.cell q1.out 4 _ rfl
  have c5 := K.cell q1.out 5 _ rfl
  have c6 := K.cell q1.out 6 _ rfl
  clear b1 
  go_wp2_with fail
  refine Calls.mono (pfxIB x.src false H1.out _) ?_
  rintro e w2 ⟨rfl, b2⟩
  have B2 := Lib.hid (bthen B1.out b2)
  clear b2 c1 c2 c3 c4 c5 c6
  go_wp2
  go_ret
  exact ⟨rfl, B2.out⟩

set_option maxHeartbeats 2000000 in
theorem ruleOkI_2 (x : Ru) (w : World) (h0 : btw 1 x.prio 9999 = true) (h1 : x.src.ok = true) (h2 : x.dst.ok = false) : Calls Try.prog 92 #[.agg #[.int .i64 x.prio, .int .i64 x.src.base.k, .int .i64 x.src.base.a, .int .i64 x.src.base.b, .int .i64 x.src.base.c, .int .i64 x.src.base.d, .int .i64 x.src.len, .int .i64 x.dst.base.k, .int .i64 x.dst.base.a, .int .i64 x.dst.base.b, .int .i64 x.dst.base.c, .int .i64 x.dst.base.d, .int .i64 x.dst.len, .int .i64 x.proto, .int .i64 x.slo, .int .i64 x.shi, .int .i64 x.dlo, .int .i64 x.dhi, .int .i64 x.tenant, .int .i64 x.weight, .int .i64 x.chain]] w fun e w' => e = .returned (.bool false) ∧ Below w.heap.size w w' := by
  have q0 := Lib.hid (K.new w (.cells #[.int .i64 x.prio, .int .i64 x.src.base.k, .int .i64 x.src.base.a, .int .i64 x.src.base.b, .int .i64 x.src.base.c, .int .i64 x.src.base.d, .int .i64 x.src.len, .int .i64 x.dst.base.k, .int .i64 x.dst.base.a, .int .i64 x.dst.base.b, .int .i64 x.dst.base.c, .int .i64 x.dst.base.d, .int .i64 x.dst.len, .int .i64 x.proto, .int .i64 x.slo, .int .i64 x.shi, .int .i64 x.dlo, .int .i64 x.dhi, .int .i64 x.tenant, .int .i64 x.weight, .int .i64 x.chain] 53))
  have H0 := Lib.hid h0
  have H1 := Lib.hid h1
  have H2 := Lib.hid h2
  clear h0 h1 h2
  go_enter Try.func92, Try.ntmps92
  go_wp2_with fail
  refine Calls.mono (ruleW 1 x.prio 9999 true H0.out _) ?_
  rintro e w1 ⟨rfl, b1⟩
  have B1 := Lib.hid (bthen (Joins.below_alloc1 w _) b1)
  have q1 := Lib.hid (K.below b1 q0.out)
  have c1 := K.cell q1.out 1 _ rfl
  have c2 := K.cell q1.out 2 _ rfl
  have c3 := K.cell q1.out 3 _ rfl
  have c4 := K.cell q1.out 4 _ rfl
  have c5 := K.cell q1.out 5 _ rfl
  have c6 := K.cell q1.out 6 _ rfl
  clear b1 
  go_wp2_with fail
  refine Calls.mono (pfxIB x.src true H1.out _) ?_
  rintro e w2 ⟨rfl, b2⟩
  have B2 := Lib.hid (bthen B1.out b2)
  have q2 := Lib.hid (K.below b2 q1.out)
  have c7 := K.cell q2.out 7 _ rfl
  have c8 := K.cell q2.out 8 _ rfl
  have c9 := K.cell q2.out 9 _ rfl
  have c10 := K.cell q2.out 10 _ rfl
  have c11 := K.cell q2.out 11 _ rfl
  have c12 := K.cell q2.out 12 _ rfl
  clear b2 c1 c2 c3 c4 c5 c6
  go_wp2_with fail
  refine Calls.mono (pfxIB x.dst false H2.out _) ?_
  rintro e w3 ⟨rfl, b3⟩
  have B3 := Lib.hid (bthen B2.out b3)
  clear b3 c7 c8 c9 c10 c11 c12
  go_wp2
  go_ret
  exact ⟨rfl, B3.out⟩

set_option maxHeartbeats 2000000 in
theorem ruleOkI_3 (x : Ru) (w : World) (h0 : btw 1 x.prio 9999 = true) (h1 : x.src.ok = true) (h2 : x.dst.ok = true) (hm : (x.proto == -1) = false) (h3 : upTo x.proto 255 = false) : Calls Try.prog 92 #[.agg #[.int .i64 x.prio, .int .i64 x.src.base.k, .int .i64 x.src.base.a, .int .i64 x.src.base.b, .int .i64 x.src.base.c, .int .i64 x.src.base.d, .int .i64 x.src.len, .int .i64 x.dst.base.k, .int .i64 x.dst.base.a, .int .i64 x.dst.base.b, .int .i64 x.dst.base.c, .int .i64 x.dst.base.d, .int .i64 x.dst.len, .int .i64 x.proto, .int .i64 x.slo, .int .i64 x.shi, .int .i64 x.dlo, .int .i64 x.dhi, .int .i64 x.tenant, .int .i64 x.weight, .int .i64 x.chain]] w fun e w' => e = .returned (.bool false) ∧ Below w.heap.size w w' := by
  have q0 := Lib.hid (K.new w (.cells #[.int .i64 x.prio, .int .i64 x.src.base.k, .int .i64 x.src.base.a, .int .i64 x.src.base.b, .int .i64 x.src.base.c, .int .i64 x.src.base.d, .int .i64 x.src.len, .int .i64 x.dst.base.k, .int .i64 x.dst.base.a, .int .i64 x.dst.base.b, .int .i64 x.dst.base.c, .int .i64 x.dst.base.d, .int .i64 x.dst.len, .int .i64 x.proto, .int .i64 x.slo, .int .i64 x.shi, .int .i64 x.dlo, .int .i64 x.dhi, .int .i64 x.tenant, .int .i64 x.weight, .int .i64 x.chain] 53))
  have H0 := Lib.hid h0
  have H1 := Lib.hid h1
  have H2 := Lib.hid h2
  have H3 := Lib.hid h3
  clear h0 h1 h2 h3
  go_enter Try.func92, Try.ntmps92
  go_wp2_with fail
  refine Calls.mono (ruleW 1 x.prio 9999 true H0.out _) ?_
  rintro e w1 ⟨rfl, b1⟩
  have B1 := Lib.hid (bthen (Joins.below_alloc1 w _) b1)
  have q1 := Lib.hid (K.below b1 q0.out)
  have c1 := K.cell q1.out 1 _ rfl
  have c2 := K.cell q1.out 2 _ rfl
  have c3 := K.cell q1.out 3 _ rfl
  have c4 := K.cell q1.out 4 _ rfl
  have c5 := K.cell q1.out 5 _ rfl
  have c6 := K.cell q1.out 6 _ rfl
  clear b1 
  go_wp2_with fail
  refine Calls.mono (pfxIB x.src true H1.out _) ?_
  rintro e w2 ⟨rfl, b2⟩
  have B2 := Lib.hid (bthen B1.out b2)
  have q2 := Lib.hid (K.below b2 q1.out)
  have c7 := K.cell q2.out 7 _ rfl
  have c8 := K.cell q2.out 8 _ rfl
  have c9 := K.cell q2.out 9 _ rfl
  have c10 := K.cell q2.out 10 _ rfl
  have c11 := K.cell q2.out 11 _ rfl
  have c12 := K.cell q2.out 12 _ rfl
  clear b2 c1 c2 c3 c4 c5 c6
  go_wp2_with fail
  refine Calls.mono (pfxIB x.dst true H2.out _) ?_
  rintro e w3 ⟨rfl, b3⟩
  have B3 := Lib.hid (bthen B2.out b3)
  have q3 := Lib.hid (K.below b3 q2.out)
  have c13 := K.cell q3.out 13 _ rfl
  clear b3 c7 c8 c9 c10 c11 c12
  go_wp2_with fail
  refine Calls.mono (protoR x.proto false _ H3.out) ?_
  rintro e w4 ⟨rfl, b4⟩
  have B4 := Lib.hid (bthen B3.out b4)
  clear b4 c13
  go_wp2
  go_ret
  exact ⟨rfl, B4.out⟩

set_option maxHeartbeats 2000000 in
theorem ruleOkI_4any (x : Ru) (w : World) (h0 : btw 1 x.prio 9999 = true) (h1 : x.src.ok = true) (h2 : x.dst.ok = true) (hm : (x.proto == -1) = true) (h4 : portsB x.slo x.shi = false) : Calls Try.prog 92 #[.agg #[.int .i64 x.prio, .int .i64 x.src.base.k, .int .i64 x.src.base.a, .int .i64 x.src.base.b, .int .i64 x.src.base.c, .int .i64 x.src.base.d, .int .i64 x.src.len, .int .i64 x.dst.base.k, .int .i64 x.dst.base.a, .int .i64 x.dst.base.b, .int .i64 x.dst.base.c, .int .i64 x.dst.base.d, .int .i64 x.dst.len, .int .i64 x.proto, .int .i64 x.slo, .int .i64 x.shi, .int .i64 x.dlo, .int .i64 x.dhi, .int .i64 x.tenant, .int .i64 x.weight, .int .i64 x.chain]] w fun e w' => e = .returned (.bool false) ∧ Below w.heap.size w w' := by
  have q0 := Lib.hid (K.new w (.cells #[.int .i64 x.prio, .int .i64 x.src.base.k, .int .i64 x.src.base.a, .int .i64 x.src.base.b, .int .i64 x.src.base.c, .int .i64 x.src.base.d, .int .i64 x.src.len, .int .i64 x.dst.base.k, .int .i64 x.dst.base.a, .int .i64 x.dst.base.b, .int .i64 x.dst.base.c, .int .i64 x.dst.base.d, .int .i64 x.dst.len, .int .i64 x.proto, .int .i64 x.slo, .int .i64 x.shi, .int .i64 x.dlo, .int .i64 x.dhi, .int .i64 x.tenant, .int .i64 x.weight, .int .i64 x.chain] 53))
  have H0 := Lib.hid h0
  have H1 := Lib.hid h1
  have H2 := Lib.hid h2
  have H4 := Lib.hid h4
  clear h0 h1 h2 h4
  go_enter Try.func92, Try.ntmps92
  go_wp2_with fail
  refine Calls.mono (ruleW 1 x.prio 9999 true H0.out _) ?_
  rintro e w1 ⟨rfl, b1⟩
  have B1 := Lib.hid (bthen (Joins.below_alloc1 w _) b1)
  have q1 := Lib.hid (K.below b1 q0.out)
  have c1 := K.cell q1.out 1 _ rfl
  have c2 := K.cell q1.out 2 _ rfl
  have c3 := K.cell q1.out 3 _ rfl
  have c4 := K.cell q1.out 4 _ rfl
  have c5 := K.cell q1.out 5 _ rfl
  have c6 := K.cell q1.out 6 _ rfl
  clear b1 
  go_wp2_with fail
  refine Calls.mono (pfxIB x.src true H1.out _) ?_
  rintro e w2 ⟨rfl, b2⟩
  have B2 := Lib.hid (bthen B1.out b2)
  have q2 := Lib.hid (K.below b2 q1.out)
  have c7 := K.cell q2.out 7 _ rfl
  have c8 := K.cell q2.out 8 _ rfl
  have c9 := K.cell q2.out 9 _ rfl
  have c10 := K.cell q2.out 10 _ rfl
  have c11 := K.cell q2.out 11 _ rfl
  have c12 := K.cell q2.out 12 _ rfl
  clear b2 c1 c2 c3 c4 c5 c6
  go_wp2_with fail
  refine Calls.mono (pfxIB x.dst true H2.out _) ?_
  rintro e w3 ⟨rfl, b3⟩
  have B3 := Lib.hid (bthen B2.out b3)
  have q3 := Lib.hid (K.below b3 q2.out)
  have c13 := K.cell q3.out 13 _ rfl
  have c14 := K.cell q3.out 14 _ rfl
  have c15 := K.cell q3.out 15 _ rfl
  clear b3 c7 c8 c9 c10 c11 c12
  go_wp2_with fail
  refine Calls.mono (portsIB x.slo x.shi false H4.out _) ?_
  rintro e w4 ⟨rfl, b4⟩
  have B4 := Lib.hid (bthen B3.out b4)
  clear b4 c13 c14 c15
  go_wp2
  go_ret
  exact ⟨rfl, B4.out⟩

set_option maxHeartbeats 2000000 in
theorem ruleOkI_4num (x : Ru) (w : World) (h0 : btw 1 x.prio 9999 = true) (h1 : x.src.ok = true) (h2 : x.dst.ok = true) (hm : (x.proto == -1) = false) (h3 : upTo x.proto 255 = true) (h4 : portsB x.slo x.shi = false) : Calls Try.prog 92 #[.agg #[.int .i64 x.prio, .int .i64 x.src.base.k, .int .i64 x.src.base.a, .int .i64 x.src.base.b, .int .i64 x.src.base.c, .int .i64 x.src.base.d, .int .i64 x.src.len, .int .i64 x.dst.base.k, .int .i64 x.dst.base.a, .int .i64 x.dst.base.b, .int .i64 x.dst.base.c, .int .i64 x.dst.base.d, .int .i64 x.dst.len, .int .i64 x.proto, .int .i64 x.slo, .int .i64 x.shi, .int .i64 x.dlo, .int .i64 x.dhi, .int .i64 x.tenant, .int .i64 x.weight, .int .i64 x.chain]] w fun e w' => e = .returned (.bool false) ∧ Below w.heap.size w w' := by
  have q0 := Lib.hid (K.new w (.cells #[.int .i64 x.prio, .int .i64 x.src.base.k, .int .i64 x.src.base.a, .int .i64 x.src.base.b, .int .i64 x.src.base.c, .int .i64 x.src.base.d, .int .i64 x.src.len, .int .i64 x.dst.base.k, .int .i64 x.dst.base.a, .int .i64 x.dst.base.b, .int .i64 x.dst.base.c, .int .i64 x.dst.base.d, .int .i64 x.dst.len, .int .i64 x.proto, .int .i64 x.slo, .int .i64 x.shi, .int .i64 x.dlo, .int .i64 x.dhi, .int .i64 x.tenant, .int .i64 x.weight, .int .i64 x.chain] 53))
  have H0 := Lib.hid h0
  have H1 := Lib.hid h1
  have H2 := Lib.hid h2
  have H3 := Lib.hid h3
  have H4 := Lib.hid h4
  clear h0 h1 h2 h3 h4
  go_enter Try.func92, Try.ntmps92
  go_wp2_with fail
  refine Calls.mono (ruleW 1 x.prio 9999 true H0.out _) ?_
  rintro e w1 ⟨rfl, b1⟩
  have B1 := Lib.hid (bthen (Joins.below_alloc1 w _) b1)
  have q1 := Lib.hid (K.below b1 q0.out)
  have c1 := K.cell q1.out 1 _ rfl
  have c2 := K.cell q1.out 2 _ rfl
  have c3 := K.cell q1.out 3 _ rfl
  have c4 := K.cell q1.out 4 _ rfl
  have c5 := K.cell q1.out 5 _ rfl
  have c6 := K.cell q1.out 6 _ rfl
  clear b1 
  go_wp2_with fail
  refine Calls.mono (pfxIB x.src true H1.out _) ?_
  rintro e w2 ⟨rfl, b2⟩
  have B2 := Lib.hid (bthen B1.out b2)
  have q2 := Lib.hid (K.below b2 q1.out)
  have c7 := K.cell q2.out 7 _ rfl
  have c8 := K.cell q2.out 8 _ rfl
  have c9 := K.cell q2.out 9 _ rfl
  have c10 := K.cell q2.out 10 _ rfl
  have c11 := K.cell q2.out 11 _ rfl
  have c12 := K.cell q2.out 12 _ rfl
  clear b2 c1 c2 c3 c4 c5 c6
  go_wp2_with fail
  refine Calls.mono (pfxIB x.dst true H2.out _) ?_
  rintro e w3 ⟨rfl, b3⟩
  have B3 := Lib.hid (bthen B2.out b3)
  have q3 := Lib.hid (K.below b3 q2.out)
  have c13 := K.cell q3.out 13 _ rfl
  clear b3 c7 c8 c9 c10 c11 c12
  go_wp2_with fail
  refine Calls.mono (protoR x.proto true _ H3.out) ?_
  rintro e w4 ⟨rfl, b4⟩
  have B4 := Lib.hid (bthen B3.out b4)
  have q4 := Lib.hid (K.below b4 q3.out)
  have c14 := K.cell q4.out 14 _ rfl
  have c15 := K.cell q4.out 15 _ rfl
  clear b4 c13
  go_wp2_with fail
  refine Calls.mono (portsIB x.slo x.shi false H4.out _) ?_
  rintro e w5 ⟨rfl, b5⟩
  have B5 := Lib.hid (bthen B4.out b5)
  clear b5 c14 c15
  go_wp2
  go_ret
  exact ⟨rfl, B5.out⟩

set_option maxHeartbeats 2000000 in
theorem ruleOkI_5any (x : Ru) (w : World) (h0 : btw 1 x.prio 9999 = true) (h1 : x.src.ok = true) (h2 : x.dst.ok = true) (hm : (x.proto == -1) = true) (h4 : portsB x.slo x.shi = true) (h5 : portsB x.dlo x.dhi = false) : Calls Try.prog 92 #[.agg #[.int .i64 x.prio, .int .i64 x.src.base.k, .int .i64 x.src.base.a, .int .i64 x.src.base.b, .int .i64 x.src.base.c, .int .i64 x.src.base.d, .int .i64 x.src.len, .int .i64 x.dst.base.k, .int .i64 x.dst.base.a, .int .i64 x.dst.base.b, .int .i64 x.dst.base.c, .int .i64 x.dst.base.d, .int .i64 x.dst.len, .int .i64 x.proto, .int .i64 x.slo, .int .i64 x.shi, .int .i64 x.dlo, .int .i64 x.dhi, .int .i64 x.tenant, .int .i64 x.weight, .int .i64 x.chain]] w fun e w' => e = .returned (.bool false) ∧ Below w.heap.size w w' := by
  have q0 := Lib.hid (K.new w (.cells #[.int .i64 x.prio, .int .i64 x.src.base.k, .int .i64 x.src.base.a, .int .i64 x.src.base.b, .int .i64 x.src.base.c, .int .i64 x.src.base.d, .int .i64 x.src.len, .int .i64 x.dst.base.k, .int .i64 x.dst.base.a, .int .i64 x.dst.base.b, .int .i64 x.dst.base.c, .int .i64 x.dst.base.d, .int .i64 x.dst.len, .int .i64 x.proto, .int .i64 x.slo, .int .i64 x.shi, .int .i64 x.dlo, .int .i64 x.dhi, .int .i64 x.tenant, .int .i64 x.weight, .int .i64 x.chain] 53))
  have H0 := Lib.hid h0
  have H1 := Lib.hid h1
  have H2 := Lib.hid h2
  have H4 := Lib.hid h4
  have H5 := Lib.hid h5
  clear h0 h1 h2 h4 h5
  go_enter Try.func92, Try.ntmps92
  go_wp2_with fail
  refine Calls.mono (ruleW 1 x.prio 9999 true H0.out _) ?_
  rintro e w1 ⟨rfl, b1⟩
  have B1 := Lib.hid (bthen (Joins.below_alloc1 w _) b1)
  have q1 := Lib.hid (K.below b1 q0.out)
  have c1 := K.cell q1.out 1 _ rfl
  have c2 := K.cell q1.out 2 _ rfl
  have c3 := K.cell q1.out 3 _ rfl
  have c4 := K.cell q1.out 4 _ rfl
  have c5 := K.cell q1.out 5 _ rfl
  have c6 := K.cell q1.out 6 _ rfl
  clear b1 
  go_wp2_with fail
  refine Calls.mono (pfxIB x.src true H1.out _) ?_
  rintro e w2 ⟨rfl, b2⟩
  have B2 := Lib.hid (bthen B1.out b2)
  have q2 := Lib.hid (K.below b2 q1.out)
  have c7 := K.cell q2.out 7 _ rfl
  have c8 := K.cell q2.out 8 _ rfl
  have c9 := K.cell q2.out 9 _ rfl
  have c10 := K.cell q2.out 10 _ rfl
  have c11 := K.cell q2.out 11 _ rfl
  have c12 := K.cell q2.out 12 _ rfl
  clear b2 c1 c2 c3 c4 c5 c6
  go_wp2_with fail
  refine Calls.mono (pfxIB x.dst true H2.out _) ?_
  rintro e w3 ⟨rfl, b3⟩
  have B3 := Lib.hid (bthen B2.out b3)
  have q3 := Lib.hid (K.below b3 q2.out)
  have c13 := K.cell q3.out 13 _ rfl
  have c14 := K.cell q3.out 14 _ rfl
  have c15 := K.cell q3.out 15 _ rfl
  clear b3 c7 c8 c9 c10 c11 c12
  go_wp2_with fail
  refine Calls.mono (portsIB x.slo x.shi true H4.out _) ?_
  rintro e w4 ⟨rfl, b4⟩
  have B4 := Lib.hid (bthen B3.out b4)
  have q4 := Lib.hid (K.below b4 q3.out)
  have c16 := K.cell q4.out 16 _ rfl
  have c17 := K.cell q4.out 17 _ rfl
  clear b4 c13 c14 c15
  go_wp2_with fail
  refine Calls.mono (portsIB x.dlo x.dhi false H5.out _) ?_
  rintro e w5 ⟨rfl, b5⟩
  have B5 := Lib.hid (bthen B4.out b5)
  clear b5 c16 c17
  go_wp2
  go_ret
  exact ⟨rfl, B5.out⟩

set_option maxHeartbeats 2000000 in
theorem ruleOkI_5num (x : Ru) (w : World) (h0 : btw 1 x.prio 9999 = true) (h1 : x.src.ok = true) (h2 : x.dst.ok = true) (hm : (x.proto == -1) = false) (h3 : upTo x.proto 255 = true) (h4 : portsB x.slo x.shi = true) (h5 : portsB x.dlo x.dhi = false) : Calls Try.prog 92 #[.agg #[.int .i64 x.prio, .int .i64 x.src.base.k, .int .i64 x.src.base.a, .int .i64 x.src.base.b, .int .i64 x.src.base.c, .int .i64 x.src.base.d, .int .i64 x.src.len, .int .i64 x.dst.base.k, .int .i64 x.dst.base.a, .int .i64 x.dst.base.b, .int .i64 x.dst.base.c, .int .i64 x.dst.base.d, .int .i64 x.dst.len, .int .i64 x.proto, .int .i64 x.slo, .int .i64 x.shi, .int .i64 x.dlo, .int .i64 x.dhi, .int .i64 x.tenant, .int .i64 x.weight, .int .i64 x.chain]] w fun e w' => e = .returned (.bool false) ∧ Below w.heap.size w w' := by
  have q0 := Lib.hid (K.new w (.cells #[.int .i64 x.prio, .int .i64 x.src.base.k, .int .i64 x.src.base.a, .int .i64 x.src.base.b, .int .i64 x.src.base.c, .int .i64 x.src.base.d, .int .i64 x.src.len, .int .i64 x.dst.base.k, .int .i64 x.dst.base.a, .int .i64 x.dst.base.b, .int .i64 x.dst.base.c, .int .i64 x.dst.base.d, .int .i64 x.dst.len, .int .i64 x.proto, .int .i64 x.slo, .int .i64 x.shi, .int .i64 x.dlo, .int .i64 x.dhi, .int .i64 x.tenant, .int .i64 x.weight, .int .i64 x.chain] 53))
  have H0 := Lib.hid h0
  have H1 := Lib.hid h1
  have H2 := Lib.hid h2
  have H3 := Lib.hid h3
  have H4 := Lib.hid h4
  have H5 := Lib.hid h5
  clear h0 h1 h2 h3 h4 h5
  go_enter Try.func92, Try.ntmps92
  go_wp2_with fail
  refine Calls.mono (ruleW 1 x.prio 9999 true H0.out _) ?_
  rintro e w1 ⟨rfl, b1⟩
  have B1 := Lib.hid (bthen (Joins.below_alloc1 w _) b1)
  have q1 := Lib.hid (K.below b1 q0.out)
  have c1 := K.cell q1.out 1 _ rfl
  have c2 := K.cell q1.out 2 _ rfl
  have c3 := K.cell q1.out 3 _ rfl
  have c4 := K.cell q1.out 4 _ rfl
  have c5 := K.cell q1.out 5 _ rfl
  have c6 := K.cell q1.out 6 _ rfl
  clear b1 
  go_wp2_with fail
  refine Calls.mono (pfxIB x.src true H1.out _) ?_
  rintro e w2 ⟨rfl, b2⟩
  have B2 := Lib.hid (bthen B1.out b2)
  have q2 := Lib.hid (K.below b2 q1.out)
  have c7 := K.cell q2.out 7 _ rfl
  have c8 := K.cell q2.out 8 _ rfl
  have c9 := K.cell q2.out 9 _ rfl
  have c10 := K.cell q2.out 10 _ rfl
  have c11 := K.cell q2.out 11 _ rfl
  have c12 := K.cell q2.out 12 _ rfl
  clear b2 c1 c2 c3 c4 c5 c6
  go_wp2_with fail
  refine Calls.mono (pfxIB x.dst true H2.out _) ?_
  rintro e w3 ⟨rfl, b3⟩
  have B3 := Lib.hid (bthen B2.out b3)
  have q3 := Lib.hid (K.below b3 q2.out)
  have c13 := K.cell q3.out 13 _ rfl
  clear b3 c7 c8 c9 c10 c11 c12
  go_wp2_with fail
  refine Calls.mono (protoR x.proto true _ H3.out) ?_
  rintro e w4 ⟨rfl, b4⟩
  have B4 := Lib.hid (bthen B3.out b4)
  have q4 := Lib.hid (K.below b4 q3.out)
  have c14 := K.cell q4.out 14 _ rfl
  have c15 := K.cell q4.out 15 _ rfl
  clear b4 c13
  go_wp2_with fail
  refine Calls.mono (portsIB x.slo x.shi true H4.out _) ?_
  rintro e w5 ⟨rfl, b5⟩
  have B5 := Lib.hid (bthen B4.out b5)
  have q5 := Lib.hid (K.below b5 q4.out)
  have c16 := K.cell q5.out 16 _ rfl
  have c17 := K.cell q5.out 17 _ rfl
  clear b5 c14 c15
  go_wp2_with fail
  refine Calls.mono (portsIB x.dlo x.dhi false H5.out _) ?_
  rintro e w6 ⟨rfl, b6⟩
  have B6 := Lib.hid (bthen B5.out b6)
  clear b6 c16 c17
  go_wp2
  go_ret
  exact ⟨rfl, B6.out⟩

set_option maxHeartbeats 2000000 in
theorem ruleOkI_6any (x : Ru) (w : World) (h0 : btw 1 x.prio 9999 = true) (h1 : x.src.ok = true) (h2 : x.dst.ok = true) (hm : (x.proto == -1) = true) (h4 : portsB x.slo x.shi = true) (h5 : portsB x.dlo x.dhi = true) (h6 : btw 1 x.tenant 8 = false) : Calls Try.prog 92 #[.agg #[.int .i64 x.prio, .int .i64 x.src.base.k, .int .i64 x.src.base.a, .int .i64 x.src.base.b, .int .i64 x.src.base.c, .int .i64 x.src.base.d, .int .i64 x.src.len, .int .i64 x.dst.base.k, .int .i64 x.dst.base.a, .int .i64 x.dst.base.b, .int .i64 x.dst.base.c, .int .i64 x.dst.base.d, .int .i64 x.dst.len, .int .i64 x.proto, .int .i64 x.slo, .int .i64 x.shi, .int .i64 x.dlo, .int .i64 x.dhi, .int .i64 x.tenant, .int .i64 x.weight, .int .i64 x.chain]] w fun e w' => e = .returned (.bool false) ∧ Below w.heap.size w w' := by
  have q0 := Lib.hid (K.new w (.cells #[.int .i64 x.prio, .int .i64 x.src.base.k, .int .i64 x.src.base.a, .int .i64 x.src.base.b, .int .i64 x.src.base.c, .int .i64 x.src.base.d, .int .i64 x.src.len, .int .i64 x.dst.base.k, .int .i64 x.dst.base.a, .int .i64 x.dst.base.b, .int .i64 x.dst.base.c, .int .i64 x.dst.base.d, .int .i64 x.dst.len, .int .i64 x.proto, .int .i64 x.slo, .int .i64 x.shi, .int .i64 x.dlo, .int .i64 x.dhi, .int .i64 x.tenant, .int .i64 x.weight, .int .i64 x.chain] 53))
  have H0 := Lib.hid h0
  have H1 := Lib.hid h1
  have H2 := Lib.hid h2
  have H4 := Lib.hid h4
  have H5 := Lib.hid h5
  have H6 := Lib.hid h6
  clear h0 h1 h2 h4 h5 h6
  go_enter Try.func92, Try.ntmps92
  go_wp2_with fail
  refine Calls.mono (ruleW 1 x.prio 9999 true H0.out _) ?_
  rintro e w1 ⟨rfl, b1⟩
  have B1 := Lib.hid (bthen (Joins.below_alloc1 w _) b1)
  have q1 := Lib.hid (K.below b1 q0.out)
  have c1 := K.cell q1.out 1 _ rfl
  have c2 := K.cell q1.out 2 _ rfl
  have c3 := K.cell q1.out 3 _ rfl
  have c4 := K.cell q1.out 4 _ rfl
  have c5 := K.cell q1.out 5 _ rfl
  have c6 := K.cell q1.out 6 _ rfl
  clear b1 
  go_wp2_with fail
  refine Calls.mono (pfxIB x.src true H1.out _) ?_
  rintro e w2 ⟨rfl, b2⟩
  have B2 := Lib.hid (bthen B1.out b2)
  have q2 := Lib.hid (K.below b2 q1.out)
  have c7 := K.cell q2.out 7 _ rfl
  have c8 := K.cell q2.out 8 _ rfl
  have c9 := K.cell q2.out 9 _ rfl
  have c10 := K.cell q2.out 10 _ rfl
  have c11 := K.cell q2.out 11 _ rfl
  have c12 := K.cell q2.out 12 _ rfl
  clear b2 c1 c2 c3 c4 c5 c6
  go_wp2_with fail
  refine Calls.mono (pfxIB x.dst true H2.out _) ?_
  rintro e w3 ⟨rfl, b3⟩
  have B3 := Lib.hid (bthen B2.out b3)
  have q3 := Lib.hid (K.below b3 q2.out)
  have c13 := K.cell q3.out 13 _ rfl
  have c14 := K.cell q3.out 14 _ rfl
  have c15 := K.cell q3.out 15 _ rfl
  clear b3 c7 c8 c9 c10 c11 c12
  go_wp2_with fail
  refine Calls.mono (portsIB x.slo x.shi true H4.out _) ?_
  rintro e w4 ⟨rfl, b4⟩
  have B4 := Lib.hid (bthen B3.out b4)
  have q4 := Lib.hid (K.below b4 q3.out)
  have c16 := K.cell q4.out 16 _ rfl
  have c17 := K.cell q4.out 17 _ rfl
  clear b4 c13 c14 c15
  go_wp2_with fail
  refine Calls.mono (portsIB x.dlo x.dhi true H5.out _) ?_
  rintro e w5 ⟨rfl, b5⟩
  have B5 := Lib.hid (bthen B4.out b5)
  have q5 := Lib.hid (K.below b5 q4.out)
  have c18 := K.cell q5.out 18 _ rfl
  clear b5 c16 c17
  go_wp2_with fail
  refine Calls.mono (ruleW 1 x.tenant 8 false H6.out _) ?_
  rintro e w6 ⟨rfl, b6⟩
  have B6 := Lib.hid (bthen B5.out b6)
  clear b6 c18
  go_wp2
  go_ret
  exact ⟨rfl, B6.out⟩

set_option maxHeartbeats 2000000 in
theorem ruleOkI_6num (x : Ru) (w : World) (h0 : btw 1 x.prio 9999 = true) (h1 : x.src.ok = true) (h2 : x.dst.ok = true) (hm : (x.proto == -1) = false) (h3 : upTo x.proto 255 = true) (h4 : portsB x.slo x.shi = true) (h5 : portsB x.dlo x.dhi = true) (h6 : btw 1 x.tenant 8 = false) : Calls Try.prog 92 #[.agg #[.int .i64 x.prio, .int .i64 x.src.base.k, .int .i64 x.src.base.a, .int .i64 x.src.base.b, .int .i64 x.src.base.c, .int .i64 x.src.base.d, .int .i64 x.src.len, .int .i64 x.dst.base.k, .int .i64 x.dst.base.a, .int .i64 x.dst.base.b, .int .i64 x.dst.base.c, .int .i64 x.dst.base.d, .int .i64 x.dst.len, .int .i64 x.proto, .int .i64 x.slo, .int .i64 x.shi, .int .i64 x.dlo, .int .i64 x.dhi, .int .i64 x.tenant, .int .i64 x.weight, .int .i64 x.chain]] w fun e w' => e = .returned (.bool false) ∧ Below w.heap.size w w' := by
  have q0 := Lib.hid (K.new w (.cells #[.int .i64 x.prio, .int .i64 x.src.base.k, .int .i64 x.src.base.a, .int .i64 x.src.base.b, .int .i64 x.src.base.c, .int .i64 x.src.base.d, .int .i64 x.src.len, .int .i64 x.dst.base.k, .int .i64 x.dst.base.a, .int .i64 x.dst.base.b, .int .i64 x.dst.base.c, .int .i64 x.dst.base.d, .int .i64 x.dst.len, .int .i64 x.proto, .int .i64 x.slo, .int .i64 x.shi, .int .i64 x.dlo, .int .i64 x.dhi, .int .i64 x.tenant, .int .i64 x.weight, .int .i64 x.chain] 53))
  have H0 := Lib.hid h0
  have H1 := Lib.hid h1
  have H2 := Lib.hid h2
  have H3 := Lib.hid h3
  have H4 := Lib.hid h4
  have H5 := Lib.hid h5
  have H6 := Lib.hid h6
  clear h0 h1 h2 h3 h4 h5 h6
  go_enter Try.func92, Try.ntmps92
  go_wp2_with fail
  refine Calls.mono (ruleW 1 x.prio 9999 true H0.out _) ?_
  rintro e w1 ⟨rfl, b1⟩
  have B1 := Lib.hid (bthen (Joins.below_alloc1 w _) b1)
  have q1 := Lib.hid (K.below b1 q0.out)
  have c1 := K.cell q1.out 1 _ rfl
  have c2 := K.cell q1.out 2 _ rfl
  have c3 := K.cell q1.out 3 _ rfl
  have c4 := K.cell q1.out 4 _ rfl
  have c5 := K.cell q1.out 5 _ rfl
  have c6 := K.cell q1.out 6 _ rfl
  clear b1 
  go_wp2_with fail
  refine Calls.mono (pfxIB x.src true H1.out _) ?_
  rintro e w2 ⟨rfl, b2⟩
  have B2 := Lib.hid (bthen B1.out b2)
  have q2 := Lib.hid (K.below b2 q1.out)
  have c7 := K.cell q2.out 7 _ rfl
  have c8 := K.cell q2.out 8 _ rfl
  have c9 := K.cell q2.out 9 _ rfl
  have c10 := K.cell q2.out 10 _ rfl
  have c11 := K.cell q2.out 11 _ rfl
  have c12 := K.cell q2.out 12 _ rfl
  clear b2 c1 c2 c3 c4 c5 c6
  go_wp2_with fail
  refine Calls.mono (pfxIB x.dst true H2.out _) ?_
  rintro e w3 ⟨rfl, b3⟩
  have B3 := Lib.hid (bthen B2.out b3)
  have q3 := Lib.hid (K.below b3 q2.out)
  have c13 := K.cell q3.out 13 _ rfl
  clear b3 c7 c8 c9 c10 c11 c12
  go_wp2_with fail
  refine Calls.mono (protoR x.proto true _ H3.out) ?_
  rintro e w4 ⟨rfl, b4⟩
  have B4 := Lib.hid (bthen B3.out b4)
  have q4 := Lib.hid (K.below b4 q3.out)
  have c14 := K.cell q4.out 14 _ rfl
  have c15 := K.cell q4.out 15 _ rfl
  clear b4 c13
  go_wp2_with fail
  refine Calls.mono (portsIB x.slo x.shi true H4.out _) ?_
  rintro e w5 ⟨rfl, b5⟩
  have B5 := Lib.hid (bthen B4.out b5)
  have q5 := Lib.hid (K.below b5 q4.out)
  have c16 := K.cell q5.out 16 _ rfl
  have c17 := K.cell q5.out 17 _ rfl
  clear b5 c14 c15
  go_wp2_with fail
  refine Calls.mono (portsIB x.dlo x.dhi true H5.out _) ?_
  rintro e w6 ⟨rfl, b6⟩
  have B6 := Lib.hid (bthen B5.out b6)
  have q6 := Lib.hid (K.below b6 q5.out)
  have c18 := K.cell q6.out 18 _ rfl
  clear b6 c16 c17
  go_wp2_with fail
  refine Calls.mono (ruleW 1 x.tenant 8 false H6.out _) ?_
  rintro e w7 ⟨rfl, b7⟩
  have B7 := Lib.hid (bthen B6.out b7)
  clear b7 c18
  go_wp2
  go_ret
  exact ⟨rfl, B7.out⟩

set_option maxHeartbeats 2000000 in
theorem ruleOkI_7any (x : Ru) (w : World) (h0 : btw 1 x.prio 9999 = true) (h1 : x.src.ok = true) (h2 : x.dst.ok = true) (hm : (x.proto == -1) = true) (h4 : portsB x.slo x.shi = true) (h5 : portsB x.dlo x.dhi = true) (h6 : btw 1 x.tenant 8 = true) (h7 : btw 1 x.weight 10 = false) : Calls Try.prog 92 #[.agg #[.int .i64 x.prio, .int .i64 x.src.base.k, .int .i64 x.src.base.a, .int .i64 x.src.base.b, .int .i64 x.src.base.c, .int .i64 x.src.base.d, .int .i64 x.src.len, .int .i64 x.dst.base.k, .int .i64 x.dst.base.a, .int .i64 x.dst.base.b, .int .i64 x.dst.base.c, .int .i64 x.dst.base.d, .int .i64 x.dst.len, .int .i64 x.proto, .int .i64 x.slo, .int .i64 x.shi, .int .i64 x.dlo, .int .i64 x.dhi, .int .i64 x.tenant, .int .i64 x.weight, .int .i64 x.chain]] w fun e w' => e = .returned (.bool false) ∧ Below w.heap.size w w' := by
  have q0 := Lib.hid (K.new w (.cells #[.int .i64 x.prio, .int .i64 x.src.base.k, .int .i64 x.src.base.a, .int .i64 x.src.base.b, .int .i64 x.src.base.c, .int .i64 x.src.base.d, .int .i64 x.src.len, .int .i64 x.dst.base.k, .int .i64 x.dst.base.a, .int .i64 x.dst.base.b, .int .i64 x.dst.base.c, .int .i64 x.dst.base.d, .int .i64 x.dst.len, .int .i64 x.proto, .int .i64 x.slo, .int .i64 x.shi, .int .i64 x.dlo, .int .i64 x.dhi, .int .i64 x.tenant, .int .i64 x.weight, .int .i64 x.chain] 53))
  have H0 := Lib.hid h0
  have H1 := Lib.hid h1
  have H2 := Lib.hid h2
  have H4 := Lib.hid h4
  have H5 := Lib.hid h5
  have H6 := Lib.hid h6
  have H7 := Lib.hid h7
  clear h0 h1 h2 h4 h5 h6 h7
  go_enter Try.func92, Try.ntmps92
  go_wp2_with fail
  refine Calls.mono (ruleW 1 x.prio 9999 true H0.out _) ?_
  rintro e w1 ⟨rfl, b1⟩
  have B1 := Lib.hid (bthen (Joins.below_alloc1 w _) b1)
  have q1 := Lib.hid (K.below b1 q0.out)
  have c1 := K.cell q1.out 1 _ rfl
  have c2 := K.cell q1.out 2 _ rfl
  have c3 := K.cell q1.out 3 _ rfl
  have c4 := K.cell q1.out 4 _ rfl
  have c5 := K.cell q1.out 5 _ rfl
  have c6 := K.cell q1.out 6 _ rfl
  clear b1 
  go_wp2_with fail
  refine Calls.mono (pfxIB x.src true H1.out _) ?_
  rintro e w2 ⟨rfl, b2⟩
  have B2 := Lib.hid (bthen B1.out b2)
  have q2 := Lib.hid (K.below b2 q1.out)
  have c7 := K.cell q2.out 7 _ rfl
  have c8 := K.cell q2.out 8 _ rfl
  have c9 := K.cell q2.out 9 _ rfl
  have c10 := K.cell q2.out 10 _ rfl
  have c11 := K.cell q2.out 11 _ rfl
  have c12 := K.cell q2.out 12 _ rfl
  clear b2 c1 c2 c3 c4 c5 c6
  go_wp2_with fail
  refine Calls.mono (pfxIB x.dst true H2.out _) ?_
  rintro e w3 ⟨rfl, b3⟩
  have B3 := Lib.hid (bthen B2.out b3)
  have q3 := Lib.hid (K.below b3 q2.out)
  have c13 := K.cell q3.out 13 _ rfl
  have c14 := K.cell q3.out 14 _ rfl
  have c15 := K.cell q3.out 15 _ rfl
  clear b3 c7 c8 c9 c10 c11 c12
  go_wp2_with fail
  refine Calls.mono (portsIB x.slo x.shi true H4.out _) ?_
  rintro e w4 ⟨rfl, b4⟩
  have B4 := Lib.hid (bthen B3.out b4)
  have q4 := Lib.hid (K.below b4 q3.out)
  have c16 := K.cell q4.out 16 _ rfl
  have c17 := K.cell q4.out 17 _ rfl
  clear b4 c13 c14 c15
  go_wp2_with fail
  refine Calls.mono (portsIB x.dlo x.dhi true H5.out _) ?_
  rintro e w5 ⟨rfl, b5⟩
  have B5 := Lib.hid (bthen B4.out b5)
  have q5 := Lib.hid (K.below b5 q4.out)
  have c18 := K.cell q5.out 18 _ rfl
  clear b5 c16 c17
  go_wp2_with fail
  refine Calls.mono (ruleW 1 x.tenant 8 true H6.out _) ?_
  rintro e w6 ⟨rfl, b6⟩
  have B6 := Lib.hid (bthen B5.out b6)
  have q6 := Lib.hid (K.below b6 q5.out)
  have c19 := K.cell q6.out 19 _ rfl
  clear b6 c18
  go_wp2_with fail
  refine Calls.mono (ruleW 1 x.weight 10 false H7.out _) ?_
  rintro e w7 ⟨rfl, b7⟩
  have B7 := Lib.hid (bthen B6.out b7)
  clear b7 c19
  go_wp2
  go_ret
  exact ⟨rfl, B7.out⟩

set_option maxHeartbeats 2000000 in
theorem ruleOkI_7num (x : Ru) (w : World) (h0 : btw 1 x.prio 9999 = true) (h1 : x.src.ok = true) (h2 : x.dst.ok = true) (hm : (x.proto == -1) = false) (h3 : upTo x.proto 255 = true) (h4 : portsB x.slo x.shi = true) (h5 : portsB x.dlo x.dhi = true) (h6 : btw 1 x.tenant 8 = true) (h7 : btw 1 x.weight 10 = false) : Calls Try.prog 92 #[.agg #[.int .i64 x.prio, .int .i64 x.src.base.k, .int .i64 x.src.base.a, .int .i64 x.src.base.b, .int .i64 x.src.base.c, .int .i64 x.src.base.d, .int .i64 x.src.len, .int .i64 x.dst.base.k, .int .i64 x.dst.base.a, .int .i64 x.dst.base.b, .int .i64 x.dst.base.c, .int .i64 x.dst.base.d, .int .i64 x.dst.len, .int .i64 x.proto, .int .i64 x.slo, .int .i64 x.shi, .int .i64 x.dlo, .int .i64 x.dhi, .int .i64 x.tenant, .int .i64 x.weight, .int .i64 x.chain]] w fun e w' => e = .returned (.bool false) ∧ Below w.heap.size w w' := by
  have q0 := Lib.hid (K.new w (.cells #[.int .i64 x.prio, .int .i64 x.src.base.k, .int .i64 x.src.base.a, .int .i64 x.src.base.b, .int .i64 x.src.base.c, .int .i64 x.src.base.d, .int .i64 x.src.len, .int .i64 x.dst.base.k, .int .i64 x.dst.base.a, .int .i64 x.dst.base.b, .int .i64 x.dst.base.c, .int .i64 x.dst.base.d, .int .i64 x.dst.len, .int .i64 x.proto, .int .i64 x.slo, .int .i64 x.shi, .int .i64 x.dlo, .int .i64 x.dhi, .int .i64 x.tenant, .int .i64 x.weight, .int .i64 x.chain] 53))
  have H0 := Lib.hid h0
  have H1 := Lib.hid h1
  have H2 := Lib.hid h2
  have H3 := Lib.hid h3
  have H4 := Lib.hid h4
  have H5 := Lib.hid h5
  have H6 := Lib.hid h6
  have H7 := Lib.hid h7
  clear h0 h1 h2 h3 h4 h5 h6 h7
  go_enter Try.func92, Try.ntmps92
  go_wp2_with fail
  refine Calls.mono (ruleW 1 x.prio 9999 true H0.out _) ?_
  rintro e w1 ⟨rfl, b1⟩
  have B1 := Lib.hid (bthen (Joins.below_alloc1 w _) b1)
  have q1 := Lib.hid (K.below b1 q0.out)
  have c1 := K.cell q1.out 1 _ rfl
  have c2 := K.cell q1.out 2 _ rfl
  have c3 := K.cell q1.out 3 _ rfl
  have c4 := K.cell q1.out 4 _ rfl
  have c5 := K.cell q1.out 5 _ rfl
  have c6 := K.cell q1.out 6 _ rfl
  clear b1 
  go_wp2_with fail
  refine Calls.mono (pfxIB x.src true H1.out _) ?_
  rintro e w2 ⟨rfl, b2⟩
  have B2 := Lib.hid (bthen B1.out b2)
  have q2 := Lib.hid (K.below b2 q1.out)
  have c7 := K.cell q2.out 7 _ rfl
  have c8 := K.cell q2.out 8 _ rfl
  have c9 := K.cell q2.out 9 _ rfl
  have c10 := K.cell q2.out 10 _ rfl
  have c11 := K.cell q2.out 11 _ rfl
  have c12 := K.cell q2.out 12 _ rfl
  clear b2 c1 c2 c3 c4 c5 c6
  go_wp2_with fail
  refine Calls.mono (pfxIB x.dst true H2.out _) ?_
  rintro e w3 ⟨rfl, b3⟩
  have B3 := Lib.hid (bthen B2.out b3)
  have q3 := Lib.hid (K.below b3 q2.out)
  have c13 := K.cell q3.out 13 _ rfl
  clear b3 c7 c8 c9 c10 c11 c12
  go_wp2_with fail
  refine Calls.mono (protoR x.proto true _ H3.out) ?_
  rintro e w4 ⟨rfl, b4⟩
  have B4 := Lib.hid (bthen B3.out b4)
  have q4 := Lib.hid (K.below b4 q3.out)
  have c14 := K.cell q4.out 14 _ rfl
  have c15 := K.cell q4.out 15 _ rfl
  clear b4 c13
  go_wp2_with fail
  refine Calls.mono (portsIB x.slo x.shi true H4.out _) ?_
  rintro e w5 ⟨rfl, b5⟩
  have B5 := Lib.hid (bthen B4.out b5)
  have q5 := Lib.hid (K.below b5 q4.out)
  have c16 := K.cell q5.out 16 _ rfl
  have c17 := K.cell q5.out 17 _ rfl
  clear b5 c14 c15
  go_wp2_with fail
  refine Calls.mono (portsIB x.dlo x.dhi true H5.out _) ?_
  rintro e w6 ⟨rfl, b6⟩
  have B6 := Lib.hid (bthen B5.out b6)
  have q6 := Lib.hid (K.below b6 q5.out)
  have c18 := K.cell q6.out 18 _ rfl
  clear b6 c16 c17
  go_wp2_with fail
  refine Calls.mono (ruleW 1 x.tenant 8 true H6.out _) ?_
  rintro e w7 ⟨rfl, b7⟩
  have B7 := Lib.hid (bthen B6.out b7)
  have q7 := Lib.hid (K.below b7 q6.out)
  have c19 := K.cell q7.out 19 _ rfl
  clear b7 c18
  go_wp2_with fail
  refine Calls.mono (ruleW 1 x.weight 10 false H7.out _) ?_
  rintro e w8 ⟨rfl, b8⟩
  have B8 := Lib.hid (bthen B7.out b8)
  clear b8 c19
  go_wp2
  go_ret
  exact ⟨rfl, B8.out⟩

set_option maxHeartbeats 2000000 in
theorem ruleOkI_8any (x : Ru) (w : World) (h0 : btw 1 x.prio 9999 = true) (h1 : x.src.ok = true) (h2 : x.dst.ok = true) (hm : (x.proto == -1) = true) (h4 : portsB x.slo x.shi = true) (h5 : portsB x.dlo x.dhi = true) (h6 : btw 1 x.tenant 8 = true) (h7 : btw 1 x.weight 10 = true) (h8 : btw 1 x.chain 8 = false) : Calls Try.prog 92 #[.agg #[.int .i64 x.prio, .int .i64 x.src.base.k, .int .i64 x.src.base.a, .int .i64 x.src.base.b, .int .i64 x.src.base.c, .int .i64 x.src.base.d, .int .i64 x.src.len, .int .i64 x.dst.base.k, .int .i64 x.dst.base.a, .int .i64 x.dst.base.b, .int .i64 x.dst.base.c, .int .i64 x.dst.base.d, .int .i64 x.dst.len, .int .i64 x.proto, .int .i64 x.slo, .int .i64 x.shi, .int .i64 x.dlo, .int .i64 x.dhi, .int .i64 x.tenant, .int .i64 x.weight, .int .i64 x.chain]] w fun e w' => e = .returned (.bool false) ∧ Below w.heap.size w w' := by
  have q0 := Lib.hid (K.new w (.cells #[.int .i64 x.prio, .int .i64 x.src.base.k, .int .i64 x.src.base.a, .int .i64 x.src.base.b, .int .i64 x.src.base.c, .int .i64 x.src.base.d, .int .i64 x.src.len, .int .i64 x.dst.base.k, .int .i64 x.dst.base.a, .int .i64 x.dst.base.b, .int .i64 x.dst.base.c, .int .i64 x.dst.base.d, .int .i64 x.dst.len, .int .i64 x.proto, .int .i64 x.slo, .int .i64 x.shi, .int .i64 x.dlo, .int .i64 x.dhi, .int .i64 x.tenant, .int .i64 x.weight, .int .i64 x.chain] 53))
  have H0 := Lib.hid h0
  have H1 := Lib.hid h1
  have H2 := Lib.hid h2
  have H4 := Lib.hid h4
  have H5 := Lib.hid h5
  have H6 := Lib.hid h6
  have H7 := Lib.hid h7
  have H8 := Lib.hid h8
  clear h0 h1 h2 h4 h5 h6 h7 h8
  go_enter Try.func92, Try.ntmps92
  go_wp2_with fail
  refine Calls.mono (ruleW 1 x.prio 9999 true H0.out _) ?_
  rintro e w1 ⟨rfl, b1⟩
  have B1 := Lib.hid (bthen (Joins.below_alloc1 w _) b1)
  have q1 := Lib.hid (K.below b1 q0.out)
  have c1 := K.cell q1.out 1 _ rfl
  have c2 := K.cell q1.out 2 _ rfl
  have c3 := K.cell q1.out 3 _ rfl
  have c4 := K.cell q1.out 4 _ rfl
  have c5 := K.cell q1.out 5 _ rfl
  have c6 := K.cell q1.out 6 _ rfl
  clear b1 
  go_wp2_with fail
  refine Calls.mono (pfxIB x.src true H1.out _) ?_
  rintro e w2 ⟨rfl, b2⟩
  have B2 := Lib.hid (bthen B1.out b2)
  have q2 := Lib.hid (K.below b2 q1.out)
  have c7 := K.cell q2.out 7 _ rfl
  have c8 := K.cell q2.out 8 _ rfl
  have c9 := K.cell q2.out 9 _ rfl
  have c10 := K.cell q2.out 10 _ rfl
  have c11 := K.cell q2.out 11 _ rfl
  have c12 := K.cell q2.out 12 _ rfl
  clear b2 c1 c2 c3 c4 c5 c6
  go_wp2_with fail
  refine Calls.mono (pfxIB x.dst true H2.out _) ?_
  rintro e w3 ⟨rfl, b3⟩
  have B3 := Lib.hid (bthen B2.out b3)
  have q3 := Lib.hid (K.below b3 q2.out)
  have c13 := K.cell q3.out 13 _ rfl
  have c14 := K.cell q3.out 14 _ rfl
  have c15 := K.cell q3.out 15 _ rfl
  clear b3 c7 c8 c9 c10 c11 c12
  go_wp2_with fail
  refine Calls.mono (portsIB x.slo x.shi true H4.out _) ?_
  rintro e w4 ⟨rfl, b4⟩
  have B4 := Lib.hid (bthen B3.out b4)
  have q4 := Lib.hid (K.below b4 q3.out)
  have c16 := K.cell q4.out 16 _ rfl
  have c17 := K.cell q4.out 17 _ rfl
  clear b4 c13 c14 c15
  go_wp2_with fail
  refine Calls.mono (portsIB x.dlo x.dhi true H5.out _) ?_
  rintro e w5 ⟨rfl, b5⟩
  have B5 := Lib.hid (bthen B4.out b5)
  have q5 := Lib.hid (K.below b5 q4.out)
  have c18 := K.cell q5.out 18 _ rfl
  clear b5 c16 c17
  go_wp2_with fail
  refine Calls.mono (ruleW 1 x.tenant 8 true H6.out _) ?_
  rintro e w6 ⟨rfl, b6⟩
  have B6 := Lib.hid (bthen B5.out b6)
  have q6 := Lib.hid (K.below b6 q5.out)
  have c19 := K.cell q6.out 19 _ rfl
  clear b6 c18
  go_wp2_with fail
  refine Calls.mono (ruleW 1 x.weight 10 true H7.out _) ?_
  rintro e w7 ⟨rfl, b7⟩
  have B7 := Lib.hid (bthen B6.out b7)
  have q7 := Lib.hid (K.below b7 q6.out)
  have c20 := K.cell q7.out 20 _ rfl
  clear b7 c19
  go_wp2_with fail
  refine Calls.mono (ruleW 1 x.chain 8 false H8.out _) ?_
  rintro e w8 ⟨rfl, b8⟩
  have B8 := Lib.hid (bthen B7.out b8)
  clear b8 c20
  go_wp2
  go_ret
  exact ⟨rfl, B8.out⟩

set_option maxHeartbeats 2000000 in
theorem ruleOkI_8num (x : Ru) (w : World) (h0 : btw 1 x.prio 9999 = true) (h1 : x.src.ok = true) (h2 : x.dst.ok = true) (hm : (x.proto == -1) = false) (h3 : upTo x.proto 255 = true) (h4 : portsB x.slo x.shi = true) (h5 : portsB x.dlo x.dhi = true) (h6 : btw 1 x.tenant 8 = true) (h7 : btw 1 x.weight 10 = true) (h8 : btw 1 x.chain 8 = false) : Calls Try.prog 92 #[.agg #[.int .i64 x.prio, .int .i64 x.src.base.k, .int .i64 x.src.base.a, .int .i64 x.src.base.b, .int .i64 x.src.base.c, .int .i64 x.src.base.d, .int .i64 x.src.len, .int .i64 x.dst.base.k, .int .i64 x.dst.base.a, .int .i64 x.dst.base.b, .int .i64 x.dst.base.c, .int .i64 x.dst.base.d, .int .i64 x.dst.len, .int .i64 x.proto, .int .i64 x.slo, .int .i64 x.shi, .int .i64 x.dlo, .int .i64 x.dhi, .int .i64 x.tenant, .int .i64 x.weight, .int .i64 x.chain]] w fun e w' => e = .returned (.bool false) ∧ Below w.heap.size w w' := by
  have q0 := Lib.hid (K.new w (.cells #[.int .i64 x.prio, .int .i64 x.src.base.k, .int .i64 x.src.base.a, .int .i64 x.src.base.b, .int .i64 x.src.base.c, .int .i64 x.src.base.d, .int .i64 x.src.len, .int .i64 x.dst.base.k, .int .i64 x.dst.base.a, .int .i64 x.dst.base.b, .int .i64 x.dst.base.c, .int .i64 x.dst.base.d, .int .i64 x.dst.len, .int .i64 x.proto, .int .i64 x.slo, .int .i64 x.shi, .int .i64 x.dlo, .int .i64 x.dhi, .int .i64 x.tenant, .int .i64 x.weight, .int .i64 x.chain] 53))
  have H0 := Lib.hid h0
  have H1 := Lib.hid h1
  have H2 := Lib.hid h2
  have H3 := Lib.hid h3
  have H4 := Lib.hid h4
  have H5 := Lib.hid h5
  have H6 := Lib.hid h6
  have H7 := Lib.hid h7
  have H8 := Lib.hid h8
  clear h0 h1 h2 h3 h4 h5 h6 h7 h8
  go_enter Try.func92, Try.ntmps92
  go_wp2_with fail
  refine Calls.mono (ruleW 1 x.prio 9999 true H0.out _) ?_
  rintro e w1 ⟨rfl, b1⟩
  have B1 := Lib.hid (bthen (Joins.below_alloc1 w _) b1)
  have q1 := Lib.hid (K.below b1 q0.out)
  have c1 := K.cell q1.out 1 _ rfl
  have c2 := K.cell q1.out 2 _ rfl
  have c3 := K.cell q1.out 3 _ rfl
  have c4 := K.cell q1.out 4 _ rfl
  have c5 := K.cell q1.out 5 _ rfl
  have c6 := K.cell q1.out 6 _ rfl
  clear b1 
  go_wp2_with fail
  refine Calls.mono (pfxIB x.src true H1.out _) ?_
  rintro e w2 ⟨rfl, b2⟩
  have B2 := Lib.hid (bthen B1.out b2)
  have q2 := Lib.hid (K.below b2 q1.out)
  have c7 := K.cell q2.out 7 _ rfl
  have c8 := K.cell q2.out 8 _ rfl
  have c9 := K.cell q2.out 9 _ rfl
  have c10 := K.cell q2.out 10 _ rfl
  have c11 := K.cell q2.out 11 _ rfl
  have c12 := K.cell q2.out 12 _ rfl
  clear b2 c1 c2 c3 c4 c5 c6
  go_wp2_with fail
  refine Calls.mono (pfxIB x.dst true H2.out _) ?_
  rintro e w3 ⟨rfl, b3⟩
  have B3 := Lib.hid (bthen B2.out b3)
  have q3 := Lib.hid (K.below b3 q2.out)
  have c13 := K.cell q3.out 13 _ rfl
  clear b3 c7 c8 c9 c10 c11 c12
  go_wp2_with fail
  refine Calls.mono (protoR x.proto true _ H3.out) ?_
  rintro e w4 ⟨rfl, b4⟩
  have B4 := Lib.hid (bthen B3.out b4)
  have q4 := Lib.hid (K.below b4 q3.out)
  have c14 := K.cell q4.out 14 _ rfl
  have c15 := K.cell q4.out 15 _ rfl
  clear b4 c13
  go_wp2_with fail
  refine Calls.mono (portsIB x.slo x.shi true H4.out _) ?_
  rintro e w5 ⟨rfl, b5⟩
  have B5 := Lib.hid (bthen B4.out b5)
  have q5 := Lib.hid (K.below b5 q4.out)
  have c16 := K.cell q5.out 16 _ rfl
  have c17 := K.cell q5.out 17 _ rfl
  clear b5 c14 c15
  go_wp2_with fail
  refine Calls.mono (portsIB x.dlo x.dhi true H5.out _) ?_
  rintro e w6 ⟨rfl, b6⟩
  have B6 := Lib.hid (bthen B5.out b6)
  have q6 := Lib.hid (K.below b6 q5.out)
  have c18 := K.cell q6.out 18 _ rfl
  clear b6 c16 c17
  go_wp2_with fail
  refine Calls.mono (ruleW 1 x.tenant 8 true H6.out _) ?_
  rintro e w7 ⟨rfl, b7⟩
  have B7 := Lib.hid (bthen B6.out b7)
  have q7 := Lib.hid (K.below b7 q6.out)
  have c19 := K.cell q7.out 19 _ rfl
  clear b7 c18
  go_wp2_with fail
  refine Calls.mono (ruleW 1 x.weight 10 true H7.out _) ?_
  rintro e w8 ⟨rfl, b8⟩
  have B8 := Lib.hid (bthen B7.out b8)
  have q8 := Lib.hid (K.below b8 q7.out)
  have c20 := K.cell q8.out 20 _ rfl
  clear b8 c19
  go_wp2_with fail
  refine Calls.mono (ruleW 1 x.chain 8 false H8.out _) ?_
  rintro e w9 ⟨rfl, b9⟩
  have B9 := Lib.hid (bthen B8.out b9)
  clear b9 c20
  go_wp2
  go_ret
  exact ⟨rfl, B9.out⟩

set_option maxHeartbeats 2000000 in
theorem ruleOkI_9any (x : Ru) (w : World) (h0 : btw 1 x.prio 9999 = true) (h1 : x.src.ok = true) (h2 : x.dst.ok = true) (hm : (x.proto == -1) = true) (h4 : portsB x.slo x.shi = true) (h5 : portsB x.dlo x.dhi = true) (h6 : btw 1 x.tenant 8 = true) (h7 : btw 1 x.weight 10 = true) (h8 : btw 1 x.chain 8 = true) : Calls Try.prog 92 #[.agg #[.int .i64 x.prio, .int .i64 x.src.base.k, .int .i64 x.src.base.a, .int .i64 x.src.base.b, .int .i64 x.src.base.c, .int .i64 x.src.base.d, .int .i64 x.src.len, .int .i64 x.dst.base.k, .int .i64 x.dst.base.a, .int .i64 x.dst.base.b, .int .i64 x.dst.base.c, .int .i64 x.dst.base.d, .int .i64 x.dst.len, .int .i64 x.proto, .int .i64 x.slo, .int .i64 x.shi, .int .i64 x.dlo, .int .i64 x.dhi, .int .i64 x.tenant, .int .i64 x.weight, .int .i64 x.chain]] w fun e w' => e = .returned (.bool true) ∧ Below w.heap.size w w' := by
  have q0 := Lib.hid (K.new w (.cells #[.int .i64 x.prio, .int .i64 x.src.base.k, .int .i64 x.src.base.a, .int .i64 x.src.base.b, .int .i64 x.src.base.c, .int .i64 x.src.base.d, .int .i64 x.src.len, .int .i64 x.dst.base.k, .int .i64 x.dst.base.a, .int .i64 x.dst.base.b, .int .i64 x.dst.base.c, .int .i64 x.dst.base.d, .int .i64 x.dst.len, .int .i64 x.proto, .int .i64 x.slo, .int .i64 x.shi, .int .i64 x.dlo, .int .i64 x.dhi, .int .i64 x.tenant, .int .i64 x.weight, .int .i64 x.chain] 53))
  have H0 := Lib.hid h0
  have H1 := Lib.hid h1
  have H2 := Lib.hid h2
  have H4 := Lib.hid h4
  have H5 := Lib.hid h5
  have H6 := Lib.hid h6
  have H7 := Lib.hid h7
  have H8 := Lib.hid h8
  clear h0 h1 h2 h4 h5 h6 h7 h8
  go_enter Try.func92, Try.ntmps92
  go_wp2_with fail
  refine Calls.mono (ruleW 1 x.prio 9999 true H0.out _) ?_
  rintro e w1 ⟨rfl, b1⟩
  have B1 := Lib.hid (bthen (Joins.below_alloc1 w _) b1)
  have q1 := Lib.hid (K.below b1 q0.out)
  have c1 := K.cell q1.out 1 _ rfl
  have c2 := K.cell q1.out 2 _ rfl
  have c3 := K.cell q1.out 3 _ rfl
  have c4 := K.cell q1.out 4 _ rfl
  have c5 := K.cell q1.out 5 _ rfl
  have c6 := K.cell q1.out 6 _ rfl
  clear b1 
  go_wp2_with fail
  refine Calls.mono (pfxIB x.src true H1.out _) ?_
  rintro e w2 ⟨rfl, b2⟩
  have B2 := Lib.hid (bthen B1.out b2)
  have q2 := Lib.hid (K.below b2 q1.out)
  have c7 := K.cell q2.out 7 _ rfl
  have c8 := K.cell q2.out 8 _ rfl
  have c9 := K.cell q2.out 9 _ rfl
  have c10 := K.cell q2.out 10 _ rfl
  have c11 := K.cell q2.out 11 _ rfl
  have c12 := K.cell q2.out 12 _ rfl
  clear b2 c1 c2 c3 c4 c5 c6
  go_wp2_with fail
  refine Calls.mono (pfxIB x.dst true H2.out _) ?_
  rintro e w3 ⟨rfl, b3⟩
  have B3 := Lib.hid (bthen B2.out b3)
  have q3 := Lib.hid (K.below b3 q2.out)
  have c13 := K.cell q3.out 13 _ rfl
  have c14 := K.cell q3.out 14 _ rfl
  have c15 := K.cell q3.out 15 _ rfl
  clear b3 c7 c8 c9 c10 c11 c12
  go_wp2_with fail
  refine Calls.mono (portsIB x.slo x.shi true H4.out _) ?_
  rintro e w4 ⟨rfl, b4⟩
  have B4 := Lib.hid (bthen B3.out b4)
  have q4 := Lib.hid (K.below b4 q3.out)
  have c16 := K.cell q4.out 16 _ rfl
  have c17 := K.cell q4.out 17 _ rfl
  clear b4 c13 c14 c15
  go_wp2_with fail
  refine Calls.mono (portsIB x.dlo x.dhi true H5.out _) ?_
  rintro e w5 ⟨rfl, b5⟩
  have B5 := Lib.hid (bthen B4.out b5)
  have q5 := Lib.hid (K.below b5 q4.out)
  have c18 := K.cell q5.out 18 _ rfl
  clear b5 c16 c17
  go_wp2_with fail
  refine Calls.mono (ruleW 1 x.tenant 8 true H6.out _) ?_
  rintro e w6 ⟨rfl, b6⟩
  have B6 := Lib.hid (bthen B5.out b6)
  have q6 := Lib.hid (K.below b6 q5.out)
  have c19 := K.cell q6.out 19 _ rfl
  clear b6 c18
  go_wp2_with fail
  refine Calls.mono (ruleW 1 x.weight 10 true H7.out _) ?_
  rintro e w7 ⟨rfl, b7⟩
  have B7 := Lib.hid (bthen B6.out b7)
  have q7 := Lib.hid (K.below b7 q6.out)
  have c20 := K.cell q7.out 20 _ rfl
  clear b7 c19
  go_wp2_with fail
  refine Calls.mono (ruleW 1 x.chain 8 true H8.out _) ?_
  rintro e w8 ⟨rfl, b8⟩
  have B8 := Lib.hid (bthen B7.out b8)
  clear b8 c20
  go_wp2
  go_ret
  exact ⟨rfl, B8.out⟩

set_option maxHeartbeats 2000000 in
theorem ruleOkI_9num (x : Ru) (w : World) (h0 : btw 1 x.prio 9999 = true) (h1 : x.src.ok = true) (h2 : x.dst.ok = true) (hm : (x.proto == -1) = false) (h3 : upTo x.proto 255 = true) (h4 : portsB x.slo x.shi = true) (h5 : portsB x.dlo x.dhi = true) (h6 : btw 1 x.tenant 8 = true) (h7 : btw 1 x.weight 10 = true) (h8 : btw 1 x.chain 8 = true) : Calls Try.prog 92 #[.agg #[.int .i64 x.prio, .int .i64 x.src.base.k, .int .i64 x.src.base.a, .int .i64 x.src.base.b, .int .i64 x.src.base.c, .int .i64 x.src.base.d, .int .i64 x.src.len, .int .i64 x.dst.base.k, .int .i64 x.dst.base.a, .int .i64 x.dst.base.b, .int .i64 x.dst.base.c, .int .i64 x.dst.base.d, .int .i64 x.dst.len, .int .i64 x.proto, .int .i64 x.slo, .int .i64 x.shi, .int .i64 x.dlo, .int .i64 x.dhi, .int .i64 x.tenant, .int .i64 x.weight, .int .i64 x.chain]] w fun e w' => e = .returned (.bool true) ∧ Below w.heap.size w w' := by
  have q0 := Lib.hid (K.new w (.cells #[.int .i64 x.prio, .int .i64 x.src.base.k, .int .i64 x.src.base.a, .int .i64 x.src.base.b, .int .i64 x.src.base.c, .int .i64 x.src.base.d, .int .i64 x.src.len, .int .i64 x.dst.base.k, .int .i64 x.dst.base.a, .int .i64 x.dst.base.b, .int .i64 x.dst.base.c, .int .i64 x.dst.base.d, .int .i64 x.dst.len, .int .i64 x.proto, .int .i64 x.slo, .int .i64 x.shi, .int .i64 x.dlo, .int .i64 x.dhi, .int .i64 x.tenant, .int .i64 x.weight, .int .i64 x.chain] 53))
  have H0 := Lib.hid h0
  have H1 := Lib.hid h1
  have H2 := Lib.hid h2
  have H3 := Lib.hid h3
  have H4 := Lib.hid h4
  have H5 := Lib.hid h5
  have H6 := Lib.hid h6
  have H7 := Lib.hid h7
  have H8 := Lib.hid h8
  clear h0 h1 h2 h3 h4 h5 h6 h7 h8
  go_enter Try.func92, Try.ntmps92
  go_wp2_with fail
  refine Calls.mono (ruleW 1 x.prio 9999 true H0.out _) ?_
  rintro e w1 ⟨rfl, b1⟩
  have B1 := Lib.hid (bthen (Joins.below_alloc1 w _) b1)
  have q1 := Lib.hid (K.below b1 q0.out)
  have c1 := K.cell q1.out 1 _ rfl
  have c2 := K.cell q1.out 2 _ rfl
  have c3 := K.cell q1.out 3 _ rfl
  have c4 := K.cell q1.out 4 _ rfl
  have c5 := K.cell q1.out 5 _ rfl
  have c6 := K.cell q1.out 6 _ rfl
  clear b1 
  go_wp2_with fail
  refine Calls.mono (pfxIB x.src true H1.out _) ?_
  rintro e w2 ⟨rfl, b2⟩
  have B2 := Lib.hid (bthen B1.out b2)
  have q2 := Lib.hid (K.below b2 q1.out)
  have c7 := K.cell q2.out 7 _ rfl
  have c8 := K.cell q2.out 8 _ rfl
  have c9 := K.cell q2.out 9 _ rfl
  have c10 := K.cell q2.out 10 _ rfl
  have c11 := K.cell q2.out 11 _ rfl
  have c12 := K.cell q2.out 12 _ rfl
  clear b2 c1 c2 c3 c4 c5 c6
  go_wp2_with fail
  refine Calls.mono (pfxIB x.dst true H2.out _) ?_
  rintro e w3 ⟨rfl, b3⟩
  have B3 := Lib.hid (bthen B2.out b3)
  have q3 := Lib.hid (K.below b3 q2.out)
  have c13 := K.cell q3.out 13 _ rfl
  clear b3 c7 c8 c9 c10 c11 c12
  go_wp2_with fail
  refine Calls.mono (protoR x.proto true _ H3.out) ?_
  rintro e w4 ⟨rfl, b4⟩
  have B4 := Lib.hid (bthen B3.out b4)
  have q4 := Lib.hid (K.below b4 q3.out)
  have c14 := K.cell q4.out 14 _ rfl
  have c15 := K.cell q4.out 15 _ rfl
  clear b4 c13
  go_wp2_with fail
  refine Calls.mono (portsIB x.slo x.shi true H4.out _) ?_
  rintro e w5 ⟨rfl, b5⟩
  have B5 := Lib.hid (bthen B4.out b5)
  have q5 := Lib.hid (K.below b5 q4.out)
  have c16 := K.cell q5.out 16 _ rfl
  have c17 := K.cell q5.out 17 _ rfl
  clear b5 c14 c15
  go_wp2_with fail
  refine Calls.mono (portsIB x.dlo x.dhi true H5.out _) ?_
  rintro e w6 ⟨rfl, b6⟩
  have B6 := Lib.hid (bthen B5.out b6)
  have q6 := Lib.hid (K.below b6 q5.out)
  have c18 := K.cell q6.out 18 _ rfl
  clear b6 c16 c17
  go_wp2_with fail
  refine Calls.mono (ruleW 1 x.tenant 8 true H6.out _) ?_
  rintro e w7 ⟨rfl, b7⟩
  have B7 := Lib.hid (bthen B6.out b7)
  have q7 := Lib.hid (K.below b7 q6.out)
  have c19 := K.cell q7.out 19 _ rfl
  clear b7 c18
  go_wp2_with fail
  refine Calls.mono (ruleW 1 x.weight 10 true H7.out _) ?_
  rintro e w8 ⟨rfl, b8⟩
  have B8 := Lib.hid (bthen B7.out b8)
  have q8 := Lib.hid (K.below b8 q7.out)
  have c20 := K.cell q8.out 20 _ rfl
  clear b8 c19
  go_wp2_with fail
  refine Calls.mono (ruleW 1 x.chain 8 true H8.out _) ?_
  rintro e w9 ⟨rfl, b9⟩
  have B9 := Lib.hid (bthen B8.out b9)
  clear b9 c20
  go_wp2
  go_ret
  exact ⟨rfl, B9.out⟩

theorem protoNo {n : Int} (hm : (n == -1) = false) (h : upTo n 255 = false) : btw (-1) n 255 = false := by
  simp [btw, upTo] at *
  omega
theorem protoAny {n : Int} (hm : (n == -1) = true) : btw (-1) n 255 = true := by
  simp [btw] at *
  omega
theorem protoNum {n : Int} (h : upTo n 255 = true) : btw (-1) n 255 = true := by
  simp [btw, upTo] at *
  omega
theorem Ru.ok_0 (x : Ru) (h0 : btw 1 x.prio 9999 = false) : x.ok = false := by simp [Ru.ok, h0]
theorem Ru.ok_1 (x : Ru) (h1 : x.src.ok = false) : x.ok = false := by simp [Ru.ok, h1]
theorem Ru.ok_2 (x : Ru) (h2 : x.dst.ok = false) : x.ok = false := by simp [Ru.ok, h2]
theorem Ru.ok_3 (x : Ru) (hm : (x.proto == -1) = false) (h3 : upTo x.proto 255 = false) : x.ok = false := by simp [Ru.ok, protoNo hm h3]
theorem Ru.ok_4any (x : Ru) (h4 : portsB x.slo x.shi = false) : x.ok = false := by simp [Ru.ok, h4]
theorem Ru.ok_4num (x : Ru) (h4 : portsB x.slo x.shi = false) : x.ok = false := by simp [Ru.ok, h4]
theorem Ru.ok_5any (x : Ru) (h5 : portsB x.dlo x.dhi = false) : x.ok = false := by simp [Ru.ok, h5]
theorem Ru.ok_5num (x : Ru) (h5 : portsB x.dlo x.dhi = false) : x.ok = false := by simp [Ru.ok, h5]
theorem Ru.ok_6any (x : Ru) (h6 : btw 1 x.tenant 8 = false) : x.ok = false := by simp [Ru.ok, h6]
theorem Ru.ok_6num (x : Ru) (h6 : btw 1 x.tenant 8 = false) : x.ok = false := by simp [Ru.ok, h6]
theorem Ru.ok_7any (x : Ru) (h7 : btw 1 x.weight 10 = false) : x.ok = false := by simp [Ru.ok, h7]
theorem Ru.ok_7num (x : Ru) (h7 : btw 1 x.weight 10 = false) : x.ok = false := by simp [Ru.ok, h7]
theorem Ru.ok_8any (x : Ru) (h8 : btw 1 x.chain 8 = false) : x.ok = false := by simp [Ru.ok, h8]
theorem Ru.ok_8num (x : Ru) (h8 : btw 1 x.chain 8 = false) : x.ok = false := by simp [Ru.ok, h8]
theorem Ru.ok_9any (x : Ru) (h0 : btw 1 x.prio 9999 = true) (h1 : x.src.ok = true) (h2 : x.dst.ok = true) (hm : (x.proto == -1) = true) (h4 : portsB x.slo x.shi = true) (h5 : portsB x.dlo x.dhi = true) (h6 : btw 1 x.tenant 8 = true) (h7 : btw 1 x.weight 10 = true) (h8 : btw 1 x.chain 8 = true) : x.ok = true := by simp [Ru.ok, h0, h1, h2, protoAny hm, h4, h5, h6, h7, h8]
theorem Ru.ok_9num (x : Ru) (h0 : btw 1 x.prio 9999 = true) (h1 : x.src.ok = true) (h2 : x.dst.ok = true) (h3 : upTo x.proto 255 = true) (h4 : portsB x.slo x.shi = true) (h5 : portsB x.dlo x.dhi = true) (h6 : btw 1 x.tenant 8 = true) (h7 : btw 1 x.weight 10 = true) (h8 : btw 1 x.chain 8 = true) : x.ok = true := by simp [Ru.ok, h0, h1, h2, protoNum h3, h4, h5, h6, h7, h8]

theorem ruleOkI (x : Ru) (w : World) : Calls Try.prog 92 #[.agg #[.int .i64 x.prio, .int .i64 x.src.base.k, .int .i64 x.src.base.a, .int .i64 x.src.base.b, .int .i64 x.src.base.c, .int .i64 x.src.base.d, .int .i64 x.src.len, .int .i64 x.dst.base.k, .int .i64 x.dst.base.a, .int .i64 x.dst.base.b, .int .i64 x.dst.base.c, .int .i64 x.dst.base.d, .int .i64 x.dst.len, .int .i64 x.proto, .int .i64 x.slo, .int .i64 x.shi, .int .i64 x.dlo, .int .i64 x.dhi, .int .i64 x.tenant, .int .i64 x.weight, .int .i64 x.chain]] w fun e w' => e = .returned (.bool x.ok) ∧ Below w.heap.size w w' := by
  cases h0 : btw 1 x.prio 9999 with
  | false =>
    exact (ruleOkI_0 x w h0).mono fun _ _ ⟨he, hb⟩ => ⟨he.trans (ret_bool (Ru.ok_0 x h0).symm), hb⟩
  | true =>
    cases h1 : x.src.ok with
    | false =>
      exact (ruleOkI_1 x w h0 h1).mono fun _ _ ⟨he, hb⟩ => ⟨he.trans (ret_bool (Ru.ok_1 x h1).symm), hb⟩
    | true =>
      cases h2 : x.dst.ok with
      | false =>
        exact (ruleOkI_2 x w h0 h1 h2).mono fun _ _ ⟨he, hb⟩ => ⟨he.trans (ret_bool (Ru.ok_2 x h2).symm), hb⟩
      | true =>
        cases hm : (x.proto == -1) with
        | true =>
          cases h4 : portsB x.slo x.shi with
          | false =>
            exact (ruleOkI_4any x w h0 h1 h2 hm h4).mono fun _ _ ⟨he, hb⟩ => ⟨he.trans (ret_bool (Ru.ok_4any x h4).symm), hb⟩
          | true =>
            cases h5 : portsB x.dlo x.dhi with
            | false =>
              exact (ruleOkI_5any x w h0 h1 h2 hm h4 h5).mono fun _ _ ⟨he, hb⟩ => ⟨he.trans (ret_bool (Ru.ok_5any x h5).symm), hb⟩
            | true =>
              cases h6 : btw 1 x.tenant 8 with
              | false =>
                exact (ruleOkI_6any x w h0 h1 h2 hm h4 h5 h6).mono fun _ _ ⟨he, hb⟩ => ⟨he.trans (ret_bool (Ru.ok_6any x h6).symm), hb⟩
              | true =>
                cases h7 : btw 1 x.weight 10 with
                | false =>
                  exact (ruleOkI_7any x w h0 h1 h2 hm h4 h5 h6 h7).mono fun _ _ ⟨he, hb⟩ => ⟨he.trans (ret_bool (Ru.ok_7any x h7).symm), hb⟩
                | true =>
                  cases h8 : btw 1 x.chain 8 with
                  | false =>
                    exact (ruleOkI_8any x w h0 h1 h2 hm h4 h5 h6 h7 h8).mono fun _ _ ⟨he, hb⟩ => ⟨he.trans (ret_bool (Ru.ok_8any x h8).symm), hb⟩
                  | true =>
                    exact (ruleOkI_9any x w h0 h1 h2 hm h4 h5 h6 h7 h8).mono fun _ _ ⟨he, hb⟩ => ⟨he.trans (ret_bool (Ru.ok_9any x h0 h1 h2 hm h4 h5 h6 h7 h8).symm), hb⟩
        | false =>
          cases h3 : upTo x.proto 255 with
          | false =>
            exact (ruleOkI_3 x w h0 h1 h2 hm h3).mono fun _ _ ⟨he, hb⟩ => ⟨he.trans (ret_bool (Ru.ok_3 x hm h3).symm), hb⟩
          | true =>
            cases h4 : portsB x.slo x.shi with
            | false =>
              exact (ruleOkI_4num x w h0 h1 h2 hm h3 h4).mono fun _ _ ⟨he, hb⟩ => ⟨he.trans (ret_bool (Ru.ok_4num x h4).symm), hb⟩
            | true =>
              cases h5 : portsB x.dlo x.dhi with
              | false =>
                exact (ruleOkI_5num x w h0 h1 h2 hm h3 h4 h5).mono fun _ _ ⟨he, hb⟩ => ⟨he.trans (ret_bool (Ru.ok_5num x h5).symm), hb⟩
              | true =>
                cases h6 : btw 1 x.tenant 8 with
                | false =>
                  exact (ruleOkI_6num x w h0 h1 h2 hm h3 h4 h5 h6).mono fun _ _ ⟨he, hb⟩ => ⟨he.trans (ret_bool (Ru.ok_6num x h6).symm), hb⟩
                | true =>
                  cases h7 : btw 1 x.weight 10 with
                  | false =>
                    exact (ruleOkI_7num x w h0 h1 h2 hm h3 h4 h5 h6 h7).mono fun _ _ ⟨he, hb⟩ => ⟨he.trans (ret_bool (Ru.ok_7num x h7).symm), hb⟩
                  | true =>
                    cases h8 : btw 1 x.chain 8 with
                    | false =>
                      exact (ruleOkI_8num x w h0 h1 h2 hm h3 h4 h5 h6 h7 h8).mono fun _ _ ⟨he, hb⟩ => ⟨he.trans (ret_bool (Ru.ok_8num x h8).symm), hb⟩
                    | true =>
                      exact (ruleOkI_9num x w h0 h1 h2 hm h3 h4 h5 h6 h7 h8).mono fun _ _ ⟨he, hb⟩ => ⟨he.trans (ret_bool (Ru.ok_9num x h0 h1 h2 h3 h4 h5 h6 h7 h8).symm), hb⟩

theorem ruleOkIB (x : Ru) (b : Bool) (h : x.ok = b) (w : World) : Calls Try.prog 92 #[.agg #[.int .i64 x.prio, .int .i64 x.src.base.k, .int .i64 x.src.base.a, .int .i64 x.src.base.b, .int .i64 x.src.base.c, .int .i64 x.src.base.d, .int .i64 x.src.len, .int .i64 x.dst.base.k, .int .i64 x.dst.base.a, .int .i64 x.dst.base.b, .int .i64 x.dst.base.c, .int .i64 x.dst.base.d, .int .i64 x.dst.len, .int .i64 x.proto, .int .i64 x.slo, .int .i64 x.shi, .int .i64 x.dlo, .int .i64 x.dhi, .int .i64 x.tenant, .int .i64 x.weight, .int .i64 x.chain]] w fun e w' => e = .returned (.bool b) ∧ Below w.heap.size w w' := h ▸ ruleOkI x w
end Go.Proofs.Ytdndanbalmoklaa
