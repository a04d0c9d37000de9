/-
  For every rule and every stream key the law FnExactRuleHas returns true: impl.RuleHas answers what the model spec.RuleHas answers. No condition; the arguments read afterwards as before.
-/
import Derived.Test.YthfmjnebpdhdfaaRuHasI
import Derived.Test.YthfmjnebpdhdfaaRuHasS
import Derived.Test.YthfmjnebpdhdfaaRuleTo
import Derived.Test.YthfmjnebpdhdfaaInRule
import Derived.Test.YthfmjnebpdhdfaaInKey
import Derived.Test.YthfmjnebpdhdfaaRows
import Derived.ShutString
namespace Go.Proofs.Ythfmjnebpdhdfaa
set_option maxRecDepth 100000
open Go.RowKit


section
variable {o : Oper} {a : Act} {w : World} {K : Act → World → Prop} {Q : Exit → Act → World → Prop}
theorem u_toRu (x : Operand) (x0 : Value) (ts : Array TypeId) (ho : o.op = .call { callee := .value (.func 17), args := #[x], argTypes := ts }) (h0 : a.eval x = x0)
    (h : Calls Try.prog 17 #[x0] w fun e w' => ∃ v, e = .returned v ∧ K (a.put o.dst v) w') : o.wp Try.prog a w K Q := by
  unfold Oper.wp execOp
  simp only [ho, resolve, List.map_toArray, List.map_cons, List.map_nil, h0, show ∀ f, a.eval (.func f) = .func (.func f) #[] #[] from fun _ => rfl]
  go_simp
  exact h.mono fun e w' ⟨u, he, hk⟩ => by subst he; exact hk
theorem u_toK (x : Operand) (x0 : Value) (ts : Array TypeId) (ho : o.op = .call { callee := .value (.func 20), args := #[x], argTypes := ts }) (h0 : a.eval x = x0)
    (h : Calls Try.prog 20 #[x0] w fun e w' => ∃ v, e = .returned v ∧ K (a.put o.dst v) w') : o.wp Try.prog a w K Q := by
  unfold Oper.wp execOp
  simp only [ho, resolve, List.map_toArray, List.map_cons, List.map_nil, h0, show ∀ f, a.eval (.func f) = .func (.func f) #[] #[] from fun _ => rfl]
  go_simp
  exact h.mono fun e w' ⟨u, he, hk⟩ => by subst he; exact hk
theorem u_spec (x y : Operand) (x0 x1 : Value) (ts : Array TypeId) (ho : o.op = .call { callee := .value (.func 19), args := #[x, y], argTypes := ts }) (h0 : a.eval x = x0) (h1 : a.eval y = x1)
    (h : Calls Try.prog 19 #[x0, x1] w fun e w' => ∃ v, e = .returned v ∧ K (a.put o.dst v) w') : o.wp Try.prog a w K Q := by
  unfold Oper.wp execOp
  simp only [ho, resolve, List.map_toArray, List.map_cons, List.map_nil, h0, h1, show ∀ f, a.eval (.func f) = .func (.func f) #[] #[] from fun _ => rfl]
  go_simp
  exact h.mono fun e w' ⟨u, he, hk⟩ => by subst he; exact hk
theorem u_impl (x y : Operand) (x0 x1 : Value) (ts : Array TypeId) (ho : o.op = .call { callee := .value (.func 21), args := #[x, y], argTypes := ts }) (h0 : a.eval x = x0) (h1 : a.eval y = x1)
    (h : Calls Try.prog 21 #[x0, x1] w fun e w' => ∃ v, e = .returned v ∧ K (a.put o.dst v) w') : o.wp Try.prog a w K Q := by
  unfold Oper.wp execOp
  simp only [ho, resolve, List.map_toArray, List.map_cons, List.map_nil, h0, h1, show ∀ f, a.eval (.func f) = .func (.func f) #[] #[] from fun _ => rfl]
  go_simp
  exact h.mono fun e w' ⟨u, he, hk⟩ => by subst he; exact hk
end

set_option maxHeartbeats 4000000 in
theorem lawRuleHas {w : World} (x : Ru) (k : Ky) : Calls Try.prog 4 #[x.val, k.val] w fun e w' => e = .returned (.bool true) ∧ Below w.heap.size w w' := by
  unfold Ru.val Ky.val
  obtain ⟨b, hb⟩ : ∃ b, x.has k = b := ⟨_, rfl⟩
  have HB := Lib.hid hb
  clear hb
  have q0 : Hid (((w.alloc (.cells #[.int .i64 x.prio, .int .i64 x.src.base.k, .int .i64 x.src.base.a, .int .i64 x.src.base.b, .int .i64 x.src.base.c, .int .i64 x.src.base.d, .int .i64 x.src.len, .int .i64 x.dst.base.k, .int .i64 x.dst.base.a, .int .i64 x.dst.base.b, .int .i64 x.dst.base.c, .int .i64 x.dst.base.d, .int .i64 x.dst.len, .int .i64 x.proto, .int .i64 x.slo, .int .i64 x.shi, .int .i64 x.dlo, .int .i64 x.dhi, .int .i64 x.tenant, .int .i64 x.weight, .int .i64 x.chain] 27)).alloc (.cells #[.int .i64 k.src.k, .int .i64 k.src.a, .int .i64 k.src.b, .int .i64 k.src.c, .int .i64 k.src.d, .int .i64 k.dst.k, .int .i64 k.dst.a, .int .i64 k.dst.b, .int .i64 k.dst.c, .int .i64 k.dst.d, .int .i64 k.proto, .int .i64 k.sport, .int .i64 k.dport] 37)).heap[w.heap.size]? = some (.cells #[.int .i64 x.prio, .int .i64 x.src.base.k, .int .i64 x.src.base.a, .int .i64 x.src.base.b, .int .i64 x.src.base.c, .int .i64 x.src.base.d, .int .i64 x.src.len, .int .i64 x.dst.base.k, .int .i64 x.dst.base.a, .int .i64 x.dst.base.b, .int .i64 x.dst.base.c, .int .i64 x.dst.base.d, .int .i64 x.dst.len, .int .i64 x.proto, .int .i64 x.slo, .int .i64 x.shi, .int .i64 x.dlo, .int .i64 x.dhi, .int .i64 x.tenant, .int .i64 x.weight, .int .i64 x.chain] 27 (0, 0))) := Lib.hid (by repeat (first | exact K.newAt (by first | rfl | (simp; done)) | refine K.oldAt (by first | (simp; done) | (simp; omega)) ?_))
  have s0 : Hid (((w.alloc (.cells #[.int .i64 x.prio, .int .i64 x.src.base.k, .int .i64 x.src.base.a, .int .i64 x.src.base.b, .int .i64 x.src.base.c, .int .i64 x.src.base.d, .int .i64 x.src.len, .int .i64 x.dst.base.k, .int .i64 x.dst.base.a, .int .i64 x.dst.base.b, .int .i64 x.dst.base.c, .int .i64 x.dst.base.d, .int .i64 x.dst.len, .int .i64 x.proto, .int .i64 x.slo, .int .i64 x.shi, .int .i64 x.dlo, .int .i64 x.dhi, .int .i64 x.tenant, .int .i64 x.weight, .int .i64 x.chain] 27)).alloc (.cells #[.int .i64 k.src.k, .int .i64 k.src.a, .int .i64 k.src.b, .int .i64 k.src.c, .int .i64 k.src.d, .int .i64 k.dst.k, .int .i64 k.dst.a, .int .i64 k.dst.b, .int .i64 k.dst.c, .int .i64 k.dst.d, .int .i64 k.proto, .int .i64 k.sport, .int .i64 k.dport] 37)).heap[w.heap.size + 1]? = some (.cells #[.int .i64 k.src.k, .int .i64 k.src.a, .int .i64 k.src.b, .int .i64 k.src.c, .int .i64 k.src.d, .int .i64 k.dst.k, .int .i64 k.dst.a, .int .i64 k.dst.b, .int .i64 k.dst.c, .int .i64 k.dst.d, .int .i64 k.proto, .int .i64 k.sport, .int .i64 k.dport] 37 (0, 0))) := Lib.hid (by repeat (first | exact K.newAt (by first | rfl | (simp; done)) | refine K.oldAt (by first | (simp; done) | (simp; omega)) ?_))
  go_enter Try.func4, Try.ntmps4
  go_wp2_with fail
  refine wp_region_guards (by kernel_rfl) 5 20 [(0, 7), (1, 8), (2, 9), (3, 10), (4, 11)] _ ([.val (.agg #[.int .i64 x.prio, .int .i64 x.src.base.k, .int .i64 x.src.base.a, .int .i64 x.src.base.b, .int .i64 x.src.base.c, .int .i64 x.src.base.d, .int .i64 x.src.len, .int .i64 x.dst.base.k, .int .i64 x.dst.base.a, .int .i64 x.dst.base.b, .int .i64 x.dst.base.c, .int .i64 x.dst.base.d, .int .i64 x.dst.len, .int .i64 x.proto, .int .i64 x.slo, .int .i64 x.shi, .int .i64 x.dlo, .int .i64 x.dhi, .int .i64 x.tenant, .int .i64 x.weight, .int .i64 x.chain]), .val (.agg #[.int .i64 x.prio, .int .i64 x.src.base.k, .int .i64 x.src.base.a, .int .i64 x.src.base.b, .int .i64 x.src.base.c, .int .i64 x.src.base.d, .int .i64 x.src.len, .int .i64 x.dst.base.k, .int .i64 x.dst.base.a, .int .i64 x.dst.base.b, .int .i64 x.dst.base.c, .int .i64 x.dst.base.d, .int .i64 x.dst.len, .int .i64 x.proto, .int .i64 x.slo, .int .i64 x.shi, .int .i64 x.dlo, .int .i64 x.dhi, .int .i64 x.tenant, .int .i64 x.weight, .int .i64 x.chain]), .val (.agg #[.int .i64 k.src.k, .int .i64 k.src.a, .int .i64 k.src.b, .int .i64 k.src.c, .int .i64 k.src.d, .int .i64 k.dst.k, .int .i64 k.dst.a, .int .i64 k.dst.b, .int .i64 k.dst.c, .int .i64 k.dst.d, .int .i64 k.proto, .int .i64 k.sport, .int .i64 k.dport]), .val (.agg #[.int .i64 k.src.k, .int .i64 k.src.a, .int .i64 k.src.b, .int .i64 k.src.c, .int .i64 k.src.d, .int .i64 k.dst.k, .int .i64 k.dst.a, .int .i64 k.dst.b, .int .i64 k.dst.c, .int .i64 k.dst.d, .int .i64 k.proto, .int .i64 k.sport, .int .i64 k.dport]), .val (.bool b)]) (by kernel_rfl) (by kernel_rfl) (by kernel_rfl) rfl rfl ?_ ?_
  · intro j o hj ho hr a' v K' hx hnd hB hK
    match j, hj, ho, hr with
    | 0, _, ho, _ =>
      obtain rfl := Option.some.inj ho
      have h0 : a'.eval (.tmp 2) = .pointer (some ⟨w.heap.size, 0, none⟩) := (hx 2 (by decide)).trans rfl
      exact r_rowL _ _ x rfl h0 (K.below hB q0.out) (hK _ _ rfl (Below.refl _ _))
    | 1, _, ho, _ =>
      obtain rfl := Option.some.inj ho
      have h0 : a'.eval (.tmp 7) = .agg #[.int .i64 x.prio, .int .i64 x.src.base.k, .int .i64 x.src.base.a, .int .i64 x.src.base.b, .int .i64 x.src.base.c, .int .i64 x.src.base.d, .int .i64 x.src.len, .int .i64 x.dst.base.k, .int .i64 x.dst.base.a, .int .i64 x.dst.base.b, .int .i64 x.dst.base.c, .int .i64 x.dst.base.d, .int .i64 x.dst.len, .int .i64 x.proto, .int .i64 x.slo, .int .i64 x.shi, .int .i64 x.dlo, .int .i64 x.dhi, .int .i64 x.tenant, .int .i64 x.weight, .int .i64 x.chain] := (gds_of hnd 0 7 (by kernel_rfl) :)
      refine u_toRu _ _ _ rfl h0 (Calls.mono (toRuleC x _) ?_)
      rintro e' v' ⟨rfl, b6⟩
      exact ⟨_, rfl, hK _ _ rfl b6⟩
    | 2, _, ho, _ =>
      obtain rfl := Option.some.inj ho
      have h0 : a'.eval (.tmp 3) = .pointer (some ⟨w.heap.size + 1, 0, none⟩) := (hx 3 (by decide)).trans rfl
      exact r_keyL _ _ k rfl h0 (K.below hB s0.out) (hK _ _ rfl (Below.refl _ _))
    | 3, _, ho, _ =>
      obtain rfl := Option.some.inj ho
      have h0 : a'.eval (.tmp 9) = .agg #[.int .i64 k.src.k, .int .i64 k.src.a, .int .i64 k.src.b, .int .i64 k.src.c, .int .i64 k.src.d, .int .i64 k.dst.k, .int .i64 k.dst.a, .int .i64 k.dst.b, .int .i64 k.dst.c, .int .i64 k.dst.d, .int .i64 k.proto, .int .i64 k.sport, .int .i64 k.dport] := (gds_of hnd 2 9 (by kernel_rfl) :)
      refine u_toK _ _ _ rfl h0 (Calls.mono (toKeyC k _) ?_)
      rintro e' v' ⟨rfl, b6⟩
      exact ⟨_, rfl, hK _ _ rfl b6⟩
    | 4, _, ho, _ =>
      obtain rfl := Option.some.inj ho
      have h0 : a'.eval (.tmp 8) = .agg #[.int .i64 x.prio, .int .i64 x.src.base.k, .int .i64 x.src.base.a, .int .i64 x.src.base.b, .int .i64 x.src.base.c, .int .i64 x.src.base.d, .int .i64 x.src.len, .int .i64 x.dst.base.k, .int .i64 x.dst.base.a, .int .i64 x.dst.base.b, .int .i64 x.dst.base.c, .int .i64 x.dst.base.d, .int .i64 x.dst.len, .int .i64 x.proto, .int .i64 x.slo, .int .i64 x.shi, .int .i64 x.dlo, .int .i64 x.dhi, .int .i64 x.tenant, .int .i64 x.weight, .int .i64 x.chain] := (gds_of hnd 1 8 (by kernel_rfl) :)
      have h1 : a'.eval (.tmp 10) = .agg #[.int .i64 k.src.k, .int .i64 k.src.a, .int .i64 k.src.b, .int .i64 k.src.c, .int .i64 k.src.d, .int .i64 k.dst.k, .int .i64 k.dst.a, .int .i64 k.dst.b, .int .i64 k.dst.c, .int .i64 k.dst.d, .int .i64 k.proto, .int .i64 k.sport, .int .i64 k.dport] := (gds_of hnd 3 10 (by kernel_rfl) :)
      refine u_spec _ _ _ _ _ rfl h0 h1 (Calls.mono (ruleHasSB x k b HB.out _) ?_)
      rintro e' v' ⟨rfl, b6⟩
      exact ⟨_, rfl, hK _ _ rfl b6⟩
    | j + 5, hj, _, _ => omega
  · intro f v hf hB
    have e0 : f 0 = (.agg #[.int .i64 x.prio, .int .i64 x.src.base.k, .int .i64 x.src.base.a, .int .i64 x.src.base.b, .int .i64 x.src.base.c, .int .i64 x.src.base.d, .int .i64 x.src.len, .int .i64 x.dst.base.k, .int .i64 x.dst.base.a, .int .i64 x.dst.base.b, .int .i64 x.dst.base.c, .int .i64 x.dst.base.d, .int .i64 x.dst.len, .int .i64 x.proto, .int .i64 x.slo, .int .i64 x.shi, .int .i64 x.dlo, .int .i64 x.dhi, .int .i64 x.tenant, .int .i64 x.weight, .int .i64 x.chain]) := hf (0, 7) (by decide)
    have e1 : f 1 = (.agg #[.int .i64 x.prio, .int .i64 x.src.base.k, .int .i64 x.src.base.a, .int .i64 x.src.base.b, .int .i64 x.src.base.c, .int .i64 x.src.base.d, .int .i64 x.src.len, .int .i64 x.dst.base.k, .int .i64 x.dst.base.a, .int .i64 x.dst.base.b, .int .i64 x.dst.base.c, .int .i64 x.dst.base.d, .int .i64 x.dst.len, .int .i64 x.proto, .int .i64 x.slo, .int .i64 x.shi, .int .i64 x.dlo, .int .i64 x.dhi, .int .i64 x.tenant, .int .i64 x.weight, .int .i64 x.chain]) := hf (1, 8) (by decide)
    have e2 : f 2 = (.agg #[.int .i64 k.src.k, .int .i64 k.src.a, .int .i64 k.src.b, .int .i64 k.src.c, .int .i64 k.src.d, .int .i64 k.dst.k, .int .i64 k.dst.a, .int .i64 k.dst.b, .int .i64 k.dst.c, .int .i64 k.dst.d, .int .i64 k.proto, .int .i64 k.sport, .int .i64 k.dport]) := hf (2, 9) (by decide)
    have e3 : f 3 = (.agg #[.int .i64 k.src.k, .int .i64 k.src.a, .int .i64 k.src.b, .int .i64 k.src.c, .int .i64 k.src.d, .int .i64 k.dst.k, .int .i64 k.dst.a, .int .i64 k.dst.b, .int .i64 k.dst.c, .int .i64 k.dst.d, .int .i64 k.proto, .int .i64 k.sport, .int .i64 k.dport]) := hf (3, 10) (by decide)
    have e4 : f 4 = (.bool b) := hf (4, 11) (by decide)
    simp only [List.foldl_cons, List.foldl_nil, List.drop_succ_cons, List.drop_zero, e0, e1, e2, e3, e4]
    clear e0 e1 e2 e3 e4 hf
    go_simp
    have q1 := Lib.hid (K.below hB q0.out)
    have s1 := Lib.hid (K.below hB s0.out)
    have B1 := Lib.hid (bthen (Joins.below_alloc2 w _ _) hB)
    clear hB q0 s0
    go_wp2_with fail
    refine wp_region_guards (by kernel_rfl) 5 20 [(0, 12), (1, 13), (2, 14), (3, 15), (4, 16)] _ ([.val (.agg #[.int .i64 x.prio, .int .i64 x.src.base.k, .int .i64 x.src.base.a, .int .i64 x.src.base.b, .int .i64 x.src.base.c, .int .i64 x.src.base.d, .int .i64 x.src.len, .int .i64 x.dst.base.k, .int .i64 x.dst.base.a, .int .i64 x.dst.base.b, .int .i64 x.dst.base.c, .int .i64 x.dst.base.d, .int .i64 x.dst.len, .int .i64 x.proto, .int .i64 x.slo, .int .i64 x.shi, .int .i64 x.dlo, .int .i64 x.dhi, .int .i64 x.tenant, .int .i64 x.weight, .int .i64 x.chain]), .val (.agg #[.int .i64 x.prio, .int .i64 x.src.base.k, .int .i64 x.src.base.a, .int .i64 x.src.base.b, .int .i64 x.src.base.c, .int .i64 x.src.base.d, .int .i64 x.src.len, .int .i64 x.dst.base.k, .int .i64 x.dst.base.a, .int .i64 x.dst.base.b, .int .i64 x.dst.base.c, .int .i64 x.dst.base.d, .int .i64 x.dst.len, .int .i64 x.proto, .int .i64 x.slo, .int .i64 x.shi, .int .i64 x.dlo, .int .i64 x.dhi, .int .i64 x.tenant, .int .i64 x.weight, .int .i64 x.chain]), .val (.agg #[.int .i64 k.src.k, .int .i64 k.src.a, .int .i64 k.src.b, .int .i64 k.src.c, .int .i64 k.src.d, .int .i64 k.dst.k, .int .i64 k.dst.a, .int .i64 k.dst.b, .int .i64 k.dst.c, .int .i64 k.dst.d, .int .i64 k.proto, .int .i64 k.sport, .int .i64 k.dport]), .val (.agg #[.int .i64 k.src.k, .int .i64 k.src.a, .int .i64 k.src.b, .int .i64 k.src.c, .int .i64 k.src.d, .int .i64 k.dst.k, .int .i64 k.dst.a, .int .i64 k.dst.b, .int .i64 k.dst.c, .int .i64 k.dst.d, .int .i64 k.proto, .int .i64 k.sport, .int .i64 k.dport]), .val (.bool b)]) (by kernel_rfl) (by kernel_rfl) (by kernel_rfl) rfl rfl ?_ ?_
    · intro j o hj ho hr a' v K' hx hnd hB hK
      match j, hj, ho, hr with
      | 0, _, ho, _ =>
        obtain rfl := Option.some.inj ho
        have h0 : a'.eval (.tmp 2) = .pointer (some ⟨w.heap.size, 0, none⟩) := (hx 2 (by decide)).trans rfl
        exact r_rowL _ _ x rfl h0 (K.below hB q1.out) (hK _ _ rfl (Below.refl _ _))
      | 1, _, ho, _ =>
        obtain rfl := Option.some.inj ho
        have h0 : a'.eval (.tmp 12) = .agg #[.int .i64 x.prio, .int .i64 x.src.base.k, .int .i64 x.src.base.a, .int .i64 x.src.base.b, .int .i64 x.src.base.c, .int .i64 x.src.base.d, .int .i64 x.src.len, .int .i64 x.dst.base.k, .int .i64 x.dst.base.a, .int .i64 x.dst.base.b, .int .i64 x.dst.base.c, .int .i64 x.dst.base.d, .int .i64 x.dst.len, .int .i64 x.proto, .int .i64 x.slo, .int .i64 x.shi, .int .i64 x.dlo, .int .i64 x.dhi, .int .i64 x.tenant, .int .i64 x.weight, .int .i64 x.chain] := (gds_of hnd 0 12 (by kernel_rfl) :)
        refine u_toRu _ _ _ rfl h0 (Calls.mono (toRuleC x _) ?_)
        rintro e' v' ⟨rfl, b6⟩
        exact ⟨_, rfl, hK _ _ rfl b6⟩
      | 2, _, ho, _ =>
        obtain rfl := Option.some.inj ho
        have h0 : a'.eval (.tmp 3) = .pointer (some ⟨w.heap.size + 1, 0, none⟩) := (hx 3 (by decide)).trans rfl
        exact r_keyL _ _ k rfl h0 (K.below hB s1.out) (hK _ _ rfl (Below.refl _ _))
      | 3, _, ho, _ =>
        obtain rfl := Option.some.inj ho
        have h0 : a'.eval (.tmp 14) = .agg #[.int .i64 k.src.k, .int .i64 k.src.a, .int .i64 k.src.b, .int .i64 k.src.c, .int .i64 k.src.d, .int .i64 k.dst.k, .int .i64 k.dst.a, .int .i64 k.dst.b, .int .i64 k.dst.c, .int .i64 k.dst.d, .int .i64 k.proto, .int .i64 k.sport, .int .i64 k.dport] := (gds_of hnd 2 14 (by kernel_rfl) :)
        refine u_toK _ _ _ rfl h0 (Calls.mono (toKeyC k _) ?_)
        rintro e' v' ⟨rfl, b6⟩
        exact ⟨_, rfl, hK _ _ rfl b6⟩
      | 4, _, ho, _ =>
        obtain rfl := Option.some.inj ho
        have h0 : a'.eval (.tmp 13) = .agg #[.int .i64 x.prio, .int .i64 x.src.base.k, .int .i64 x.src.base.a, .int .i64 x.src.base.b, .int .i64 x.src.base.c, .int .i64 x.src.base.d, .int .i64 x.src.len, .int .i64 x.dst.base.k, .int .i64 x.dst.base.a, .int .i64 x.dst.base.b, .int .i64 x.dst.base.c, .int .i64 x.dst.base.d, .int .i64 x.dst.len, .int .i64 x.proto, .int .i64 x.slo, .int .i64 x.shi, .int .i64 x.dlo, .int .i64 x.dhi, .int .i64 x.tenant, .int .i64 x.weight, .int .i64 x.chain] := (gds_of hnd 1 13 (by kernel_rfl) :)
        have h1 : a'.eval (.tmp 15) = .agg #[.int .i64 k.src.k, .int .i64 k.src.a, .int .i64 k.src.b, .int .i64 k.src.c, .int .i64 k.src.d, .int .i64 k.dst.k, .int .i64 k.dst.a, .int .i64 k.dst.b, .int .i64 k.dst.c, .int .i64 k.dst.d, .int .i64 k.proto, .int .i64 k.sport, .int .i64 k.dport] := (gds_of hnd 3 15 (by kernel_rfl) :)
        refine u_impl _ _ _ _ _ rfl h0 h1 (Calls.mono (ruleHasIB x k b HB.out _) ?_)
        rintro e' v' ⟨rfl, b6⟩
        exact ⟨_, rfl, hK _ _ rfl b6⟩
      | j + 5, hj, _, _ => omega
    · intro f v hf hB
      have e0 : f 0 = (.agg #[.int .i64 x.prio, .int .i64 x.src.base.k, .int .i64 x.src.base.a, .int .i64 x.src.base.b, .int .i64 x.src.base.c, .int .i64 x.src.base.d, .int .i64 x.src.len, .int .i64 x.dst.base.k, .int .i64 x.dst.base.a, .int .i64 x.dst.base.b, .int .i64 x.dst.base.c, .int .i64 x.dst.base.d, .int .i64 x.dst.len, .int .i64 x.proto, .int .i64 x.slo, .int .i64 x.shi, .int .i64 x.dlo, .int .i64 x.dhi, .int .i64 x.tenant, .int .i64 x.weight, .int .i64 x.chain]) := hf (0, 12) (by decide)
      have e1 : f 1 = (.agg #[.int .i64 x.prio, .int .i64 x.src.base.k, .int .i64 x.src.base.a, .int .i64 x.src.base.b, .int .i64 x.src.base.c, .int .i64 x.src.base.d, .int .i64 x.src.len, .int .i64 x.dst.base.k, .int .i64 x.dst.base.a, .int .i64 x.dst.base.b, .int .i64 x.dst.base.c, .int .i64 x.dst.base.d, .int .i64 x.dst.len, .int .i64 x.proto, .int .i64 x.slo, .int .i64 x.shi, .int .i64 x.dlo, .int .i64 x.dhi, .int .i64 x.tenant, .int .i64 x.weight, .int .i64 x.chain]) := hf (1, 13) (by decide)
      have e2 : f 2 = (.agg #[.int .i64 k.src.k, .int .i64 k.src.a, .int .i64 k.src.b, .int .i64 k.src.c, .int .i64 k.src.d, .int .i64 k.dst.k, .int .i64 k.dst.a, .int .i64 k.dst.b, .int .i64 k.dst.c, .int .i64 k.dst.d, .int .i64 k.proto, .int .i64 k.sport, .int .i64 k.dport]) := hf (2, 14) (by decide)
      have e3 : f 3 = (.agg #[.int .i64 k.src.k, .int .i64 k.src.a, .int .i64 k.src.b, .int .i64 k.src.c, .int .i64 k.src.d, .int .i64 k.dst.k, .int .i64 k.dst.a, .int .i64 k.dst.b, .int .i64 k.dst.c, .int .i64 k.dst.d, .int .i64 k.proto, .int .i64 k.sport, .int .i64 k.dport]) := hf (3, 15) (by decide)
      have e4 : f 4 = (.bool b) := hf (4, 16) (by decide)
      simp only [List.foldl_cons, List.foldl_nil, List.drop_succ_cons, List.drop_zero, e0, e1, e2, e3, e4]
      clear e0 e1 e2 e3 e4 hf
      go_simp
      have B2 := Lib.hid (bthen B1.out hB)
      clear hB
      go_wp2
      go_ret
      exact ⟨rfl, B2.out⟩

namespace fnExactRuleHas
open Go.ChangeShapes Go.WideShapes Go.ChangeAt Go.RowKit
open Go.ChangeMaps (open_string shut_string)
theorem own : ownKnob Try.prog.godebug = none := by kernel_rfl
theorem laidOut : laidOutB Try.prog = true := by kernel_rfl

set_option maxRecDepth 100000 in
theorem lifted (os : Os) (started : os.Started) (H : Type) (enc : TypeId × Value → H) :
    ReturnsInHanded {} Try.checked os 4 .any (Rows.fnExactRuleHasSpec.pre6 enc Try.prog Try.f4 Rows.fnExactRuleHasRow.domain false) (Rows.fnExactRuleHasSpec.post enc Try.prog Try.f4 false true false false) := by
  refine returnsInHanded_of_change (C := Try.checked) own started (by kernel_rfl) Try.func4
    (ChangeSpec.witness6 (enc := enc) (C := Try.checked) false ⟨#[], #[.agg #[.int .i64 0, .int .i64 0, .int .i64 0, .int .i64 0, .int .i64 0, .int .i64 0, .int .i64 0, .int .i64 0, .int .i64 0, .int .i64 0, .int .i64 0, .int .i64 0, .int .i64 0, .int .i64 0, .int .i64 0, .int .i64 0, .int .i64 0, .int .i64 0, .int .i64 0, .int .i64 0, .int .i64 0], .agg #[.int .i64 0, .int .i64 0, .int .i64 0, .int .i64 0, .int .i64 0, .int .i64 0, .int .i64 0, .int .i64 0, .int .i64 0, .int .i64 0, .int .i64 0, .int .i64 0, .int .i64 0]], []⟩ 8 (by kernel_rfl) (by kernel_rfl) (by kernel_rfl) (by kernel_rfl)) ?_
  intro W base args ds gs before hval0 hW _ _
  have hval : ∀ (j : Nat) t v, Try.f4.params[j]? = some t → args[j]? = some v → Value.okWide Try.prog W .any base t v := hval0
  have hW' := hW
  obtain ⟨p, q, hA0, hV, rfl, _, _⟩ := hW
  have hA : DataW.TrodAll enc Try.prog W 0 (fun _ => true) true Try.f4.params.toList args.toList ds p := hA0
  rw [Try.params4] at hA hval
  obtain ⟨v0, vs0, d0, ds0, p0, q0, hargs, rfl, rfl, h0, r0⟩ := trodAll_cons hA
  obtain ⟨v1, vs1, d1, ds1, p1, q1, rfl, rfl, rfl, h1, r1⟩ := trodAll_cons r0
  obtain ⟨rfl, rfl, rfl⟩ := trodAll_nil r1
  obtain rfl : args = #[v0, v1] := by cases args; simp_all
  obtain ⟨rfl, rfl⟩ := trodVars_none hV
  have k0 := h0
  have lt0 : ∀ x ∈ p0, x.block < W.heap.size := by obtain ⟨m, hm⟩ := k0; exact DataW.trod_lt m _ _ _ hm
  obtain ⟨a0, rfl⟩ := rule_in (hval 0 27 v0 rfl rfl) h0
  have k1 := h1
  have lt1 : ∀ x ∈ p1, x.block < W.heap.size := by obtain ⟨m, hm⟩ := k1; exact DataW.trod_lt m _ _ _ hm
  obtain ⟨a1, rfl⟩ := key_in (hval 1 37 v1 rfl rfl) h1
  clear hA0 hval0
  refine (lawRuleHas a0 a1).mono fun e W' ⟨he, bel⟩ => ?_
  subst he
  exact ⟨_, rfl, _, _, _, [], _, [], hW', trodAll_mk1 (shut_bool Try.underlying4 _), (trodAll_cons_mk (Below.trod laidOut (by kernel_rfl) (of_decide_eq_true (by kernel_rfl)) k0 bel lt0) (trodAll_cons_mk (Below.trod laidOut (by kernel_rfl) (of_decide_eq_true (by kernel_rfl)) k1 bel lt1) trodAll_mk0)), rfl, bel.frame _, fun h => by cases h⟩

theorem proved : Rows.FnExactRuleHasSaid :=
  OpenClaim.holds_of_wide 4 Try.f4 rfl rfl rfl rfl rfl rfl rfl ⟨rfl, rfl, rfl, rfl, rfl⟩ rfl rfl rfl rfl rfl (by kernel_rfl) Try.func4 (by kernel_rfl)
    (of_decide_eq_true (by kernel_rfl)) (by unfold Func.isWrapper; rw [if_neg (of_decide_eq_false (by kernel_rfl))]; exact ⟨rfl, rfl⟩)
    (fun os started H enc _ => lifted os started H enc)
#print axioms proved
end fnExactRuleHas
end Go.Proofs.Ythfmjnebpdhdfaa
