/-
  FlowKeyOk in the program and in the model.
-/
import Derived.Test.YtmfkpiclpkeemaaTabLib
import Derived.Test.YtmfkpiclpkeemaaFk
import Derived.Test.YtmfkpiclpkeemaaKeyR
namespace Go.Proofs.Ytmfkpiclpkeemaa
set_option maxRecDepth 100000
open Go.RowKit

set_option maxHeartbeats 2000000 in
theorem fkOkI_0 (x : Fk) (w : World) (h0 : btw 1 x.tenant 8 = false) : Calls Try.prog 19 #[.agg #[.int .i64 x.tenant, .int .i64 x.key.src.k, .int .i64 x.key.src.a, .int .i64 x.key.src.b, .int .i64 x.key.src.c, .int .i64 x.key.src.d, .int .i64 x.key.dst.k, .int .i64 x.key.dst.a, .int .i64 x.key.dst.b, .int .i64 x.key.dst.c, .int .i64 x.key.dst.d, .int .i64 x.key.proto, .int .i64 x.key.sport, .int .i64 x.key.dport]] w fun e w' => e = .returned (.bool false) ∧ Below w.heap.size w w' := by
  have q0 := Lib.hid (K.new w (.cells #[.int .i64 x.tenant, .int .i64 x.key.src.k, .int .i64 x.key.src.a, .int .i64 x.key.src.b, .int .i64 x.key.src.c, .int .i64 x.key.src.d, .int .i64 x.key.dst.k, .int .i64 x.key.dst.a, .int .i64 x.key.dst.b, .int .i64 x.key.dst.c, .int .i64 x.key.dst.d, .int .i64 x.key.proto, .int .i64 x.key.sport, .int .i64 x.key.dport] 33))
  have H0 := Lib.hid h0
  clear h0
  go_enter Try.func19, Try.ntmps19
  have c0 := K.cell q0.out 0 _ rfl
  go_wp2_with fail
  refine Calls.mono (ruleW 1 x.tenant 8 false H0.out _) ?_
  rintro e w1 ⟨rfl, b1⟩
  have B1 := Lib.hid (bthen (Joins.below_alloc1 w _) b1)
  clear b1 c0
  go_wp2
  go_ret
  exact ⟨rfl, B1.out⟩

set_option maxHeartbeats 2000000 in
theorem fkOkI_1 (x : Fk) (b : Bool) (hb : x.key.ok = b) (w : World) (h0 : btw 1 x.tenant 8 = true) : Calls Try.prog 19 #[.agg #[.int .i64 x.tenant, .int .i64 x.key.src.k, .int .i64 x.key.src.a, .int .i64 x.key.src.b, .int .i64 x.key.src.c, .int .i64 x.key.src.d, .int .i64 x.key.dst.k, .int .i64 x.key.dst.a, .int .i64 x.key.dst.b, .int .i64 x.key.dst.c, .int .i64 x.key.dst.d, .int .i64 x.key.proto, .int .i64 x.key.sport, .int .i64 x.key.dport]] w fun e w' => e = .returned (.bool b) ∧ Below w.heap.size w w' := by
  have q0 := Lib.hid (K.new w (.cells #[.int .i64 x.tenant, .int .i64 x.key.src.k, .int .i64 x.key.src.a, .int .i64 x.key.src.b, .int .i64 x.key.src.c, .int .i64 x.key.src.d, .int .i64 x.key.dst.k, .int .i64 x.key.dst.a, .int .i64 x.key.dst.b, .int .i64 x.key.dst.c, .int .i64 x.key.dst.d, .int .i64 x.key.proto, .int .i64 x.key.sport, .int .i64 x.key.dport] 33))
  have HB := Lib.hid hb
  clear hb
  have H0 := Lib.hid h0
  clear h0
  go_enter Try.func19, Try.ntmps19
  have c0 := K.cell q0.out 0 _ rfl
  go_wp2_with fail
  refine Calls.mono (ruleW 1 x.tenant 8 true H0.out _) ?_
  rintro e w1 ⟨rfl, b1⟩
  have B1 := Lib.hid (bthen (Joins.below_alloc1 w _) b1)
  have q1 := Lib.hid (K.below b1 q0.out)
  clear b1 c0
  have c1 := K.cell q1.out 1 _ rfl
  have c2 := K.cell q1.out 2 _ rfl
  have c3 := K.cell q1.out 3 _ rfl
  have c4 := K.cell q1.out 4 _ rfl
  have c5 := K.cell q1.out 5 _ rfl
  have c6 := K.cell q1.out 6 _ rfl
  have c7 := K.cell q1.out 7 _ rfl
  have c8 := K.cell q1.out 8 _ rfl
  have c9 := K.cell q1.out 9 _ rfl
  have c10 := K.cell q1.out 10 _ rfl
  have c11 := K.cell q1.out 11 _ rfl
  have c12 := K.cell q1.out 12 _ rfl
  have c13 := K.cell q1.out 13 _ rfl
  go_wp2_with fail
  refine Calls.mono (keyOkIB x.key b HB.out _) ?_
  rintro e w2 ⟨rfl, b2⟩
  have B2 := Lib.hid (bthen B1.out b2)
  clear b2 c1 c2 c3 c4 c5 c6 c7 c8 c9 c10 c11 c12 c13
  go_wp2
  go_ret
  exact ⟨rfl, B2.out⟩

theorem fkOkIB (x : Fk) (b : Bool) (h : x.ok = b) (w : World) : Calls Try.prog 19 #[.agg #[.int .i64 x.tenant, .int .i64 x.key.src.k, .int .i64 x.key.src.a, .int .i64 x.key.src.b, .int .i64 x.key.src.c, .int .i64 x.key.src.d, .int .i64 x.key.dst.k, .int .i64 x.key.dst.a, .int .i64 x.key.dst.b, .int .i64 x.key.dst.c, .int .i64 x.key.dst.d, .int .i64 x.key.proto, .int .i64 x.key.sport, .int .i64 x.key.dport]] w fun e w' => e = .returned (.bool b) ∧ Below w.heap.size w w' := by
  subst h
  cases h0 : btw 1 x.tenant 8 with
  | false => exact (fkOkI_0 x w h0).mono fun _ _ ⟨he, hb⟩ => ⟨he.trans (ret_bool (Fk.no1 h0).symm), hb⟩
  | true => exact (fkOkI_1 x _ rfl w h0).mono fun _ _ ⟨he, hb⟩ => ⟨he.trans (ret_bool (Fk.yes h0).symm), hb⟩

set_option maxHeartbeats 2000000 in
theorem fkOkS_0 (x : Fk) (w : World) (h0 : ¬ 1 ≤ x.tenant) : Calls Try.prog 17 #[.agg #[.int .i64 x.tenant, .int .i64 x.key.src.k, .int .i64 x.key.src.a, .int .i64 x.key.src.b, .int .i64 x.key.src.c, .int .i64 x.key.src.d, .int .i64 x.key.dst.k, .int .i64 x.key.dst.a, .int .i64 x.key.dst.b, .int .i64 x.key.dst.c, .int .i64 x.key.dst.d, .int .i64 x.key.proto, .int .i64 x.key.sport, .int .i64 x.key.dport]] w fun e w' => e = .returned (.bool false) ∧ Below w.heap.size w w' := by
  have q0 := Lib.hid (K.new w (.cells #[.int .i64 x.tenant, .int .i64 x.key.src.k, .int .i64 x.key.src.a, .int .i64 x.key.src.b, .int .i64 x.key.src.c, .int .i64 x.key.src.d, .int .i64 x.key.dst.k, .int .i64 x.key.dst.a, .int .i64 x.key.dst.b, .int .i64 x.key.dst.c, .int .i64 x.key.dst.d, .int .i64 x.key.proto, .int .i64 x.key.sport, .int .i64 x.key.dport] 33))
  go_enter Try.func17, Try.ntmps17
  have c0 := K.cell q0.out 0 _ rfl
  go_wp2
  go_ret
  exact ⟨rfl, by go_grown⟩

set_option maxHeartbeats 2000000 in
theorem fkOkS_1 (x : Fk) (w : World) (h0 : 1 ≤ x.tenant) (h1 : ¬ x.tenant ≤ 8) : Calls Try.prog 17 #[.agg #[.int .i64 x.tenant, .int .i64 x.key.src.k, .int .i64 x.key.src.a, .int .i64 x.key.src.b, .int .i64 x.key.src.c, .int .i64 x.key.src.d, .int .i64 x.key.dst.k, .int .i64 x.key.dst.a, .int .i64 x.key.dst.b, .int .i64 x.key.dst.c, .int .i64 x.key.dst.d, .int .i64 x.key.proto, .int .i64 x.key.sport, .int .i64 x.key.dport]] w fun e w' => e = .returned (.bool false) ∧ Below w.heap.size w w' := by
  have q0 := Lib.hid (K.new w (.cells #[.int .i64 x.tenant, .int .i64 x.key.src.k, .int .i64 x.key.src.a, .int .i64 x.key.src.b, .int .i64 x.key.src.c, .int .i64 x.key.src.d, .int .i64 x.key.dst.k, .int .i64 x.key.dst.a, .int .i64 x.key.dst.b, .int .i64 x.key.dst.c, .int .i64 x.key.dst.d, .int .i64 x.key.proto, .int .i64 x.key.sport, .int .i64 x.key.dport] 33))
  go_enter Try.func17, Try.ntmps17
  have c0 := K.cell q0.out 0 _ rfl
  go_wp2
  go_ret
  exact ⟨rfl, by go_grown⟩

set_option maxHeartbeats 2000000 in
theorem fkOkS_2 (x : Fk) (b : Bool) (hb : x.key.ok = b) (w : World) (h0 : 1 ≤ x.tenant) (h1 : x.tenant ≤ 8) : Calls Try.prog 17 #[.agg #[.int .i64 x.tenant, .int .i64 x.key.src.k, .int .i64 x.key.src.a, .int .i64 x.key.src.b, .int .i64 x.key.src.c, .int .i64 x.key.src.d, .int .i64 x.key.dst.k, .int .i64 x.key.dst.a, .int .i64 x.key.dst.b, .int .i64 x.key.dst.c, .int .i64 x.key.dst.d, .int .i64 x.key.proto, .int .i64 x.key.sport, .int .i64 x.key.dport]] w fun e w' => e = .returned (.bool b) ∧ Below w.heap.size w w' := by
  have q0 := Lib.hid (K.new w (.cells #[.int .i64 x.tenant, .int .i64 x.key.src.k, .int .i64 x.key.src.a, .int .i64 x.key.src.b, .int .i64 x.key.src.c, .int .i64 x.key.src.d, .int .i64 x.key.dst.k, .int .i64 x.key.dst.a, .int .i64 x.key.dst.b, .int .i64 x.key.dst.c, .int .i64 x.key.dst.d, .int .i64 x.key.proto, .int .i64 x.key.sport, .int .i64 x.key.dport] 33))
  have HB := Lib.hid hb
  clear hb
  go_enter Try.func17, Try.ntmps17
  have c0 := K.cell q0.out 0 _ rfl
  have c1 := K.cell q0.out 1 _ rfl
  have c2 := K.cell q0.out 2 _ rfl
  have c3 := K.cell q0.out 3 _ rfl
  have c4 := K.cell q0.out 4 _ rfl
  have c5 := K.cell q0.out 5 _ rfl
  have c6 := K.cell q0.out 6 _ rfl
  have c7 := K.cell q0.out 7 _ rfl
  have c8 := K.cell q0.out 8 _ rfl
  have c9 := K.cell q0.out 9 _ rfl
  have c10 := K.cell q0.out 10 _ rfl
  have c11 := K.cell q0.out 11 _ rfl
  have c12 := K.cell q0.out 12 _ rfl
  have c13 := K.cell q0.out 13 _ rfl
  go_wp2_with fail
  refine Calls.mono (keyOkSB x.key b HB.out _) ?_
  rintro e w1 ⟨rfl, b1⟩
  have B1 := Lib.hid (bthen (Joins.below_alloc1 w _) b1)
  clear b1 c0 c1 c2 c3 c4 c5 c6 c7 c8 c9 c10 c11 c12 c13
  go_wp2
  go_ret
  exact ⟨rfl, B1.out⟩

theorem fkOkSB (x : Fk) (b : Bool) (h : x.ok = b) (w : World) : Calls Try.prog 17 #[.agg #[.int .i64 x.tenant, .int .i64 x.key.src.k, .int .i64 x.key.src.a, .int .i64 x.key.src.b, .int .i64 x.key.src.c, .int .i64 x.key.src.d, .int .i64 x.key.dst.k, .int .i64 x.key.dst.a, .int .i64 x.key.dst.b, .int .i64 x.key.dst.c, .int .i64 x.key.dst.d, .int .i64 x.key.proto, .int .i64 x.key.sport, .int .i64 x.key.dport]] w fun e w' => e = .returned (.bool b) ∧ Below w.heap.size w w' := by
  subst h
  by_cases h0 : 1 ≤ x.tenant
  · by_cases h1 : x.tenant ≤ 8
    · exact (fkOkS_2 x _ rfl w h0 h1).mono fun _ _ ⟨he, hb⟩ => ⟨he.trans (ret_bool (Fk.yes (by simp [btw, h0, h1])).symm), hb⟩
    · exact (fkOkS_1 x w h0 h1).mono fun _ _ ⟨he, hb⟩ => ⟨he.trans (ret_bool (Fk.no1 (by simp [btw, h1])).symm), hb⟩
  · exact (fkOkS_0 x w h0).mono fun _ _ ⟨he, hb⟩ => ⟨he.trans (ret_bool (Fk.no1 (by simp [btw, h0])).symm), hb⟩
end Go.Proofs.Ytmfkpiclpkeemaa
