/-
  RuleHas in the program.
-/
import Derived.Test.YthfmjnebpdhdfaaRuComp
import Derived.Test.YthfmjnebpdhdfaaKeyR
import Derived.Test.YthfmjnebpdhdfaaRegGuard
namespace Go.Proofs.Ythfmjnebpdhdfaa
set_option maxRecDepth 100000
open Go.RowKit


section
variable {o : Oper} {a : Act} {w : World} {K : Act → World → Prop} {Q : Exit → Act → World → Prop}
theorem r_move (x : Operand) (v : Value) (ho : o.op = .move x) (hx : a.eval x = v) (hK : K (a.put o.dst v) w) : o.wp Try.prog a w K Q := by
  unfold Oper.wp execOp
  simp only [ho, hx]
  go_simp
  exact hK
theorem r_pick (x y : Operand) (t : Nat) (b : Bool) (v : Value) (ho : o.op = .pick (.tmp t) x y) (hc : a.eval (.tmp t) = .bool b) (hv : (if b then a.eval x else a.eval y) = v) (hK : K (a.put o.dst v) w) : o.wp Try.prog a w K Q := by
  cases b with
  | false =>
    have hw : a.eval y = v := hv
    unfold Oper.wp execOp
    simp only [ho, hc, hw]
    go_simp
    exact hK
  | true =>
    have hw : a.eval x = v := hv
    unfold Oper.wp execOp
    simp only [ho, hc, hw]
    go_simp
    exact hK
theorem r_row (x : Operand) (g : Nat) (r : Ru) (ho : o.op = .load 33 x) (hx : a.eval x = .pointer (some ⟨g, 0, none⟩)) {t : TypeId} (hg : w.heap[g]? = some (.cells #[.int .i64 r.prio, .int .i64 r.src.base.k, .int .i64 r.src.base.a, .int .i64 r.src.base.b, .int .i64 r.src.base.c, .int .i64 r.src.base.d, .int .i64 r.src.len, .int .i64 r.dst.base.k, .int .i64 r.dst.base.a, .int .i64 r.dst.base.b, .int .i64 r.dst.base.c, .int .i64 r.dst.base.d, .int .i64 r.dst.len, .int .i64 r.proto, .int .i64 r.slo, .int .i64 r.shi, .int .i64 r.dlo, .int .i64 r.dhi, .int .i64 r.tenant, .int .i64 r.weight, .int .i64 r.chain] t (0, 0))) (hK : K (a.put o.dst (.agg #[.int .i64 r.prio, .int .i64 r.src.base.k, .int .i64 r.src.base.a, .int .i64 r.src.base.b, .int .i64 r.src.base.c, .int .i64 r.src.base.d, .int .i64 r.src.len, .int .i64 r.dst.base.k, .int .i64 r.dst.base.a, .int .i64 r.dst.base.b, .int .i64 r.dst.base.c, .int .i64 r.dst.base.d, .int .i64 r.dst.len, .int .i64 r.proto, .int .i64 r.slo, .int .i64 r.shi, .int .i64 r.dlo, .int .i64 r.dhi, .int .i64 r.tenant, .int .i64 r.weight, .int .i64 r.chain])) w) : o.wp Try.prog a w K Q :=
  wp_load_row 33 x ho g hx t _ (0, 0) _ hg Try.underlying33 rfl info_rule hK
theorem r_rowL (x : Operand) (g : Nat) (r : Ru) (ho : o.op = .load 27 x) (hx : a.eval x = .pointer (some ⟨g, 0, none⟩)) {t : TypeId} (hg : w.heap[g]? = some (.cells #[.int .i64 r.prio, .int .i64 r.src.base.k, .int .i64 r.src.base.a, .int .i64 r.src.base.b, .int .i64 r.src.base.c, .int .i64 r.src.base.d, .int .i64 r.src.len, .int .i64 r.dst.base.k, .int .i64 r.dst.base.a, .int .i64 r.dst.base.b, .int .i64 r.dst.base.c, .int .i64 r.dst.base.d, .int .i64 r.dst.len, .int .i64 r.proto, .int .i64 r.slo, .int .i64 r.shi, .int .i64 r.dlo, .int .i64 r.dhi, .int .i64 r.tenant, .int .i64 r.weight, .int .i64 r.chain] t (0, 0))) (hK : K (a.put o.dst (.agg #[.int .i64 r.prio, .int .i64 r.src.base.k, .int .i64 r.src.base.a, .int .i64 r.src.base.b, .int .i64 r.src.base.c, .int .i64 r.src.base.d, .int .i64 r.src.len, .int .i64 r.dst.base.k, .int .i64 r.dst.base.a, .int .i64 r.dst.base.b, .int .i64 r.dst.base.c, .int .i64 r.dst.base.d, .int .i64 r.dst.len, .int .i64 r.proto, .int .i64 r.slo, .int .i64 r.shi, .int .i64 r.dlo, .int .i64 r.dhi, .int .i64 r.tenant, .int .i64 r.weight, .int .i64 r.chain])) w) : o.wp Try.prog a w K Q :=
  wp_load_row 27 x ho g hx t _ (0, 0) _ hg Try.underlying27 rfl info_lrule hK
theorem r_key (x : Operand) (g : Nat) (r : Ky) (ho : o.op = .load 40 x) (hx : a.eval x = .pointer (some ⟨g, 0, none⟩)) {t : TypeId} (hg : w.heap[g]? = some (.cells #[.int .i64 r.src.k, .int .i64 r.src.a, .int .i64 r.src.b, .int .i64 r.src.c, .int .i64 r.src.d, .int .i64 r.dst.k, .int .i64 r.dst.a, .int .i64 r.dst.b, .int .i64 r.dst.c, .int .i64 r.dst.d, .int .i64 r.proto, .int .i64 r.sport, .int .i64 r.dport] t (0, 0))) (hK : K (a.put o.dst (.agg #[.int .i64 r.src.k, .int .i64 r.src.a, .int .i64 r.src.b, .int .i64 r.src.c, .int .i64 r.src.d, .int .i64 r.dst.k, .int .i64 r.dst.a, .int .i64 r.dst.b, .int .i64 r.dst.c, .int .i64 r.dst.d, .int .i64 r.proto, .int .i64 r.sport, .int .i64 r.dport])) w) : o.wp Try.prog a w K Q :=
  wp_load_row 40 x ho g hx t _ (0, 0) _ hg Try.underlying40 rfl info_key hK
theorem r_keyL (x : Operand) (g : Nat) (r : Ky) (ho : o.op = .load 37 x) (hx : a.eval x = .pointer (some ⟨g, 0, none⟩)) {t : TypeId} (hg : w.heap[g]? = some (.cells #[.int .i64 r.src.k, .int .i64 r.src.a, .int .i64 r.src.b, .int .i64 r.src.c, .int .i64 r.src.d, .int .i64 r.dst.k, .int .i64 r.dst.a, .int .i64 r.dst.b, .int .i64 r.dst.c, .int .i64 r.dst.d, .int .i64 r.proto, .int .i64 r.sport, .int .i64 r.dport] t (0, 0))) (hK : K (a.put o.dst (.agg #[.int .i64 r.src.k, .int .i64 r.src.a, .int .i64 r.src.b, .int .i64 r.src.c, .int .i64 r.src.d, .int .i64 r.dst.k, .int .i64 r.dst.a, .int .i64 r.dst.b, .int .i64 r.dst.c, .int .i64 r.dst.d, .int .i64 r.proto, .int .i64 r.sport, .int .i64 r.dport])) w) : o.wp Try.prog a w K Q :=
  wp_load_row 37 x ho g hx t _ (0, 0) _ hg Try.underlying37 rfl info_lkey hK
theorem u_okRI (x : Operand) (x0 : Value) (ts : Array TypeId) (ho : o.op = .call { callee := .value (.func 18), args := #[x], argTypes := ts }) (h0 : a.eval x = x0)
    (h : Calls Try.prog 18 #[x0] w fun e w' => ∃ v, e = .returned v ∧ K (a.put o.dst v) w') : o.wp Try.prog a w K Q := by
  unfold Oper.wp execOp
  simp only [ho, resolve, List.map_toArray, List.map_cons, List.map_nil, h0, show ∀ f, a.eval (.func f) = .func (.func f) #[] #[] from fun _ => rfl]
  go_simp
  exact h.mono fun e w' ⟨u, he, hk⟩ => by subst he; exact hk
theorem u_okKI (x : Operand) (x0 : Value) (ts : Array TypeId) (ho : o.op = .call { callee := .value (.func 67), args := #[x], argTypes := ts }) (h0 : a.eval x = x0)
    (h : Calls Try.prog 67 #[x0] w fun e w' => ∃ v, e = .returned v ∧ K (a.put o.dst v) w') : o.wp Try.prog a w K Q := by
  unfold Oper.wp execOp
  simp only [ho, resolve, List.map_toArray, List.map_cons, List.map_nil, h0, show ∀ f, a.eval (.func f) = .func (.func f) #[] #[] from fun _ => rfl]
  go_simp
  exact h.mono fun e w' ⟨u, he, hk⟩ => by subst he; exact hk
theorem u_compI (x : Operand) (x0 : Value) (ts : Array TypeId) (ho : o.op = .call { callee := .value (.func 68), args := #[x], argTypes := ts }) (h0 : a.eval x = x0)
    (h : Calls Try.prog 68 #[x0] w fun e w' => ∃ v, e = .returned v ∧ K (a.put o.dst v) w') : o.wp Try.prog a w K Q := by
  unfold Oper.wp execOp
  simp only [ho, resolve, List.map_toArray, List.map_cons, List.map_nil, h0, show ∀ f, a.eval (.func f) = .func (.func f) #[] #[] from fun _ => rfl]
  go_simp
  exact h.mono fun e w' ⟨u, he, hk⟩ => by subst he; exact hk
theorem u_matchI (x y : Operand) (x0 x1 : Value) (ts : Array TypeId) (ho : o.op = .call { callee := .value (.func 69), args := #[x, y], argTypes := ts }) (h0 : a.eval x = x0) (h1 : a.eval y = x1)
    (h : Calls Try.prog 69 #[x0, x1] w fun e w' => ∃ v, e = .returned v ∧ K (a.put o.dst v) w') : o.wp Try.prog a w K Q := by
  unfold Oper.wp execOp
  simp only [ho, resolve, List.map_toArray, List.map_cons, List.map_nil, h0, h1, show ∀ f, a.eval (.func f) = .func (.func f) #[] #[] from fun _ => rfl]
  go_simp
  exact h.mono fun e w' ⟨u, he, hk⟩ => by subst he; exact hk
end

set_option maxHeartbeats 4000000 in
theorem ruleHasI_no (x : Ru) (k : Ky) (w : World) (h1 : x.ok = false) : Calls Try.prog 21 #[.agg #[.int .i64 x.prio, .int .i64 x.src.base.k, .int .i64 x.src.base.a, .int .i64 x.src.base.b, .int .i64 x.src.base.c, .int .i64 x.src.base.d, .int .i64 x.src.len, .int .i64 x.dst.base.k, .int .i64 x.dst.base.a, .int .i64 x.dst.base.b, .int .i64 x.dst.base.c, .int .i64 x.dst.base.d, .int .i64 x.dst.len, .int .i64 x.proto, .int .i64 x.slo, .int .i64 x.shi, .int .i64 x.dlo, .int .i64 x.dhi, .int .i64 x.tenant, .int .i64 x.weight, .int .i64 x.chain], .agg #[.int .i64 k.src.k, .int .i64 k.src.a, .int .i64 k.src.b, .int .i64 k.src.c, .int .i64 k.src.d, .int .i64 k.dst.k, .int .i64 k.dst.a, .int .i64 k.dst.b, .int .i64 k.dst.c, .int .i64 k.dst.d, .int .i64 k.proto, .int .i64 k.sport, .int .i64 k.dport]] w fun e w' => e = .returned (.bool false) ∧ Below w.heap.size w w' := by
  have q0 : Hid (((w.alloc (.cells #[.int .i64 x.prio, .int .i64 x.src.base.k, .int .i64 x.src.base.a, .int .i64 x.src.base.b, .int .i64 x.src.base.c, .int .i64 x.src.base.d, .int .i64 x.src.len, .int .i64 x.dst.base.k, .int .i64 x.dst.base.a, .int .i64 x.dst.base.b, .int .i64 x.dst.base.c, .int .i64 x.dst.base.d, .int .i64 x.dst.len, .int .i64 x.proto, .int .i64 x.slo, .int .i64 x.shi, .int .i64 x.dlo, .int .i64 x.dhi, .int .i64 x.tenant, .int .i64 x.weight, .int .i64 x.chain] 33)).alloc (.cells #[.int .i64 k.src.k, .int .i64 k.src.a, .int .i64 k.src.b, .int .i64 k.src.c, .int .i64 k.src.d, .int .i64 k.dst.k, .int .i64 k.dst.a, .int .i64 k.dst.b, .int .i64 k.dst.c, .int .i64 k.dst.d, .int .i64 k.proto, .int .i64 k.sport, .int .i64 k.dport] 40)).heap[w.heap.size]? = some (.cells #[.int .i64 x.prio, .int .i64 x.src.base.k, .int .i64 x.src.base.a, .int .i64 x.src.base.b, .int .i64 x.src.base.c, .int .i64 x.src.base.d, .int .i64 x.src.len, .int .i64 x.dst.base.k, .int .i64 x.dst.base.a, .int .i64 x.dst.base.b, .int .i64 x.dst.base.c, .int .i64 x.dst.base.d, .int .i64 x.dst.len, .int .i64 x.proto, .int .i64 x.slo, .int .i64 x.shi, .int .i64 x.dlo, .int .i64 x.dhi, .int .i64 x.tenant, .int .i64 x.weight, .int .i64 x.chain] 33 (0, 0))) := Lib.hid (by repeat (first | exact K.newAt (by first | rfl | (simp; done)) | refine K.oldAt (by first | (simp; done) | (simp; omega)) ?_))
  have s0 : Hid (((w.alloc (.cells #[.int .i64 x.prio, .int .i64 x.src.base.k, .int .i64 x.src.base.a, .int .i64 x.src.base.b, .int .i64 x.src.base.c, .int .i64 x.src.base.d, .int .i64 x.src.len, .int .i64 x.dst.base.k, .int .i64 x.dst.base.a, .int .i64 x.dst.base.b, .int .i64 x.dst.base.c, .int .i64 x.dst.base.d, .int .i64 x.dst.len, .int .i64 x.proto, .int .i64 x.slo, .int .i64 x.shi, .int .i64 x.dlo, .int .i64 x.dhi, .int .i64 x.tenant, .int .i64 x.weight, .int .i64 x.chain] 33)).alloc (.cells #[.int .i64 k.src.k, .int .i64 k.src.a, .int .i64 k.src.b, .int .i64 k.src.c, .int .i64 k.src.d, .int .i64 k.dst.k, .int .i64 k.dst.a, .int .i64 k.dst.b, .int .i64 k.dst.c, .int .i64 k.dst.d, .int .i64 k.proto, .int .i64 k.sport, .int .i64 k.dport] 40)).heap[w.heap.size + 1]? = some (.cells #[.int .i64 k.src.k, .int .i64 k.src.a, .int .i64 k.src.b, .int .i64 k.src.c, .int .i64 k.src.d, .int .i64 k.dst.k, .int .i64 k.dst.a, .int .i64 k.dst.b, .int .i64 k.dst.c, .int .i64 k.dst.d, .int .i64 k.proto, .int .i64 k.sport, .int .i64 k.dport] 40 (0, 0))) := Lib.hid (by repeat (first | exact K.newAt (by first | rfl | (simp; done)) | refine K.oldAt (by first | (simp; done) | (simp; omega)) ?_))
  have H1 := Lib.hid h1
  clear h1
  go_enter Try.func21, Try.ntmps21
  go_wp2_with fail
  refine wp_region_guards (by kernel_rfl) 12 17 [(0, 5), (1, 6), (2, 7), (3, 8), (4, 9), (5, 10), (6, 11), (7, 12), (8, 13), (9, 14), (10, 15), (11, 16)] _ ([.val (.agg #[.int .i64 x.prio, .int .i64 x.src.base.k, .int .i64 x.src.base.a, .int .i64 x.src.base.b, .int .i64 x.src.base.c, .int .i64 x.src.base.d, .int .i64 x.src.len, .int .i64 x.dst.base.k, .int .i64 x.dst.base.a, .int .i64 x.dst.base.b, .int .i64 x.dst.base.c, .int .i64 x.dst.base.d, .int .i64 x.dst.len, .int .i64 x.proto, .int .i64 x.slo, .int .i64 x.shi, .int .i64 x.dlo, .int .i64 x.dhi, .int .i64 x.tenant, .int .i64 x.weight, .int .i64 x.chain]), .bit false, .bit false, .skip, .skip, .bit false, .bit false, .skip, .skip, .skip, .skip, .val (.bool false)]) (by kernel_rfl) (by kernel_rfl) (by kernel_rfl) rfl rfl ?_ ?_
  · intro j o hj ho hr a' v K' hx hnd hB hK
    match j, hj, ho, hr with
    | 0, _, ho, _ =>
      obtain rfl := Option.some.inj ho
      have h0 : a'.eval (.tmp 2) = .pointer (some ⟨w.heap.size, 0, none⟩) := (hx 2 (by decide)).trans rfl
      exact r_row _ _ x rfl h0 (K.below hB q0.out) (hK _ _ rfl (Below.refl _ _))
    | 1, _, ho, _ =>
      obtain rfl := Option.some.inj ho
      have h0 : a'.eval (.tmp 5) = .agg #[.int .i64 x.prio, .int .i64 x.src.base.k, .int .i64 x.src.base.a, .int .i64 x.src.base.b, .int .i64 x.src.base.c, .int .i64 x.src.base.d, .int .i64 x.src.len, .int .i64 x.dst.base.k, .int .i64 x.dst.base.a, .int .i64 x.dst.base.b, .int .i64 x.dst.base.c, .int .i64 x.dst.base.d, .int .i64 x.dst.len, .int .i64 x.proto, .int .i64 x.slo, .int .i64 x.shi, .int .i64 x.dlo, .int .i64 x.dhi, .int .i64 x.tenant, .int .i64 x.weight, .int .i64 x.chain] := (gds_of hnd 0 5 (by kernel_rfl) :)
      refine u_okRI _ _ _ rfl h0 (Calls.mono (ruleOkIB x false H1.out _) ?_)
      rintro e' v' ⟨rfl, b6⟩
      exact ⟨_, rfl, hK _ _ rfl b6⟩
    | 2, _, ho, _ =>
      obtain rfl := Option.some.inj ho
      have h0 : a'.eval (.tmp 6) = .bool false := (gds_of hnd 1 6 (by kernel_rfl) :)
      exact r_move _ _ rfl h0 (hK _ _ rfl (Below.refl _ _))
    | 3, _, ho, hr =>
      obtain rfl := Option.some.inj ho
      exact Bool.noConfusion (show false = true from hr)
    | 4, _, ho, hr =>
      obtain rfl := Option.some.inj ho
      exact Bool.noConfusion (show false = true from hr)
    | 5, _, ho, _ =>
      obtain rfl := Option.some.inj ho
      have h0 : a'.eval (.tmp 7) = .bool false := (gds_of hnd 2 7 (by kernel_rfl) :)
      exact r_pick _ _ _ false _ rfl h0 rfl (hK _ _ rfl (Below.refl _ _))
    | 6, _, ho, _ =>
      obtain rfl := Option.some.inj ho
      have h0 : a'.eval (.tmp 10) = .bool false := (gds_of hnd 5 10 (by kernel_rfl) :)
      exact r_move _ _ rfl h0 (hK _ _ rfl (Below.refl _ _))
    | 7, _, ho, hr =>
      obtain rfl := Option.some.inj ho
      exact Bool.noConfusion (show false = true from hr)
    | 8, _, ho, hr =>
      obtain rfl := Option.some.inj ho
      exact Bool.noConfusion (show false = true from hr)
    | 9, _, ho, hr =>
      obtain rfl := Option.some.inj ho
      exact Bool.noConfusion (show false = true from hr)
    | 10, _, ho, hr =>
      obtain rfl := Option.some.inj ho
      exact Bool.noConfusion (show false = true from hr)
    | 11, _, ho, _ =>
      obtain rfl := Option.some.inj ho
      have h0 : a'.eval (.tmp 11) = .bool false := (gds_of hnd 6 11 (by kernel_rfl) :)
      exact r_pick _ _ _ false _ rfl h0 rfl (hK _ _ rfl (Below.refl _ _))
    | j + 12, hj, _, _ => omega
  · intro f v hf hB
    have e0 : f 0 = (.agg #[.int .i64 x.prio, .int .i64 x.src.base.k, .int .i64 x.src.base.a, .int .i64 x.src.base.b, .int .i64 x.src.base.c, .int .i64 x.src.base.d, .int .i64 x.src.len, .int .i64 x.dst.base.k, .int .i64 x.dst.base.a, .int .i64 x.dst.base.b, .int .i64 x.dst.base.c, .int .i64 x.dst.base.d, .int .i64 x.dst.len, .int .i64 x.proto, .int .i64 x.slo, .int .i64 x.shi, .int .i64 x.dlo, .int .i64 x.dhi, .int .i64 x.tenant, .int .i64 x.weight, .int .i64 x.chain]) := hf (0, 5) (by decide)
    have e1 : f 1 = (.bool false) := hf (1, 6) (by decide)
    have e2 : f 2 = (.bool false) := hf (2, 7) (by decide)
    have e3 : f 3 = undef := hf (3, 8) (by decide)
    have e4 : f 4 = undef := hf (4, 9) (by decide)
    have e5 : f 5 = (.bool false) := hf (5, 10) (by decide)
    have e6 : f 6 = (.bool false) := hf (6, 11) (by decide)
    have e7 : f 7 = undef := hf (7, 12) (by decide)
    have e8 : f 8 = undef := hf (8, 13) (by decide)
    have e9 : f 9 = undef := hf (9, 14) (by decide)
    have e10 : f 10 = undef := hf (10, 15) (by decide)
    have e11 : f 11 = (.bool false) := hf (11, 16) (by decide)
    simp only [List.foldl_cons, List.foldl_nil, List.drop_succ_cons, List.drop_zero, e0, e1, e2, e3, e4, e5, e6, e7, e8, e9, e10, e11]
    clear e0 e1 e2 e3 e4 e5 e6 e7 e8 e9 e10 e11 hf
    go_simp
    have B1 := Lib.hid (bthen (Joins.below_alloc2 w _ _) hB)
    clear hB
    go_wp2
    go_ret
    exact ⟨rfl, B1.out⟩

set_option maxHeartbeats 4000000 in
theorem ruleHasI_key (x : Ru) (k : Ky) (w : World) (h1 : x.ok = true) (h2 : k.ok = false) : Calls Try.prog 21 #[.agg #[.int .i64 x.prio, .int .i64 x.src.base.k, .int .i64 x.src.base.a, .int .i64 x.src.base.b, .int .i64 x.src.base.c, .int .i64 x.src.base.d, .int .i64 x.src.len, .int .i64 x.dst.base.k, .int .i64 x.dst.base.a, .int .i64 x.dst.base.b, .int .i64 x.dst.base.c, .int .i64 x.dst.base.d, .int .i64 x.dst.len, .int .i64 x.proto, .int .i64 x.slo, .int .i64 x.shi, .int .i64 x.dlo, .int .i64 x.dhi, .int .i64 x.tenant, .int .i64 x.weight, .int .i64 x.chain], .agg #[.int .i64 k.src.k, .int .i64 k.src.a, .int .i64 k.src.b, .int .i64 k.src.c, .int .i64 k.src.d, .int .i64 k.dst.k, .int .i64 k.dst.a, .int .i64 k.dst.b, .int .i64 k.dst.c, .int .i64 k.dst.d, .int .i64 k.proto, .int .i64 k.sport, .int .i64 k.dport]] w fun e w' => e = .returned (.bool false) ∧ Below w.heap.size w w' := by
  have q0 : Hid (((w.alloc (.cells #[.int .i64 x.prio, .int .i64 x.src.base.k, .int .i64 x.src.base.a, .int .i64 x.src.base.b, .int .i64 x.src.base.c, .int .i64 x.src.base.d, .int .i64 x.src.len, .int .i64 x.dst.base.k, .int .i64 x.dst.base.a, .int .i64 x.dst.base.b, .int .i64 x.dst.base.c, .int .i64 x.dst.base.d, .int .i64 x.dst.len, .int .i64 x.proto, .int .i64 x.slo, .int .i64 x.shi, .int .i64 x.dlo, .int .i64 x.dhi, .int .i64 x.tenant, .int .i64 x.weight, .int .i64 x.chain] 33)).alloc (.cells #[.int .i64 k.src.k, .int .i64 k.src.a, .int .i64 k.src.b, .int .i64 k.src.c, .int .i64 k.src.d, .int .i64 k.dst.k, .int .i64 k.dst.a, .int .i64 k.dst.b, .int .i64 k.dst.c, .int .i64 k.dst.d, .int .i64 k.proto, .int .i64 k.sport, .int .i64 k.dport] 40)).heap[w.heap.size]? = some (.cells #[.int .i64 x.prio, .int .i64 x.src.base.k, .int .i64 x.src.base.a, .int .i64 x.src.base.b, .int .i64 x.src.base.c, .int .i64 x.src.base.d, .int .i64 x.src.len, .int .i64 x.dst.base.k, .int .i64 x.dst.base.a, .int .i64 x.dst.base.b, .int .i64 x.dst.base.c, .int .i64 x.dst.base.d, .int .i64 x.dst.len, .int .i64 x.proto, .int .i64 x.slo, .int .i64 x.shi, .int .i64 x.dlo, .int .i64 x.dhi, .int .i64 x.tenant, .int .i64 x.weight, .int .i64 x.chain] 33 (0, 0))) := Lib.hid (by repeat (first | exact K.newAt (by first | rfl | (simp; done)) | refine K.oldAt (by first | (simp; done) | (simp; omega)) ?_))
  have s0 : Hid (((w.alloc (.cells #[.int .i64 x.prio, .int .i64 x.src.base.k, .int .i64 x.src.base.a, .int .i64 x.src.base.b, .int .i64 x.src.base.c, .int .i64 x.src.base.d, .int .i64 x.src.len, .int .i64 x.dst.base.k, .int .i64 x.dst.base.a, .int .i64 x.dst.base.b, .int .i64 x.dst.base.c, .int .i64 x.dst.base.d, .int .i64 x.dst.len, .int .i64 x.proto, .int .i64 x.slo, .int .i64 x.shi, .int .i64 x.dlo, .int .i64 x.dhi, .int .i64 x.tenant, .int .i64 x.weight, .int .i64 x.chain] 33)).alloc (.cells #[.int .i64 k.src.k, .int .i64 k.src.a, .int .i64 k.src.b, .int .i64 k.src.c, .int .i64 k.src.d, .int .i64 k.dst.k, .int .i64 k.dst.a, .int .i64 k.dst.b, .int .i64 k.dst.c, .int .i64 k.dst.d, .int .i64 k.proto, .int .i64 k.sport, .int .i64 k.dport] 40)).heap[w.heap.size + 1]? = some (.cells #[.int .i64 k.src.k, .int .i64 k.src.a, .int .i64 k.src.b, .int .i64 k.src.c, .int .i64 k.src.d, .int .i64 k.dst.k, .int .i64 k.dst.a, .int .i64 k.dst.b, .int .i64 k.dst.c, .int .i64 k.dst.d, .int .i64 k.proto, .int .i64 k.sport, .int .i64 k.dport] 40 (0, 0))) := Lib.hid (by repeat (first | exact K.newAt (by first | rfl | (simp; done)) | refine K.oldAt (by first | (simp; done) | (simp; omega)) ?_))
  have H1 := Lib.hid h1
  have H2 := Lib.hid h2
  clear h1 h2
  go_enter Try.func21, Try.ntmps21
  go_wp2_with fail
  refine wp_region_guards (by kernel_rfl) 12 17 [(0, 5), (1, 6), (2, 7), (3, 8), (4, 9), (5, 10), (6, 11), (7, 12), (8, 13), (9, 14), (10, 15), (11, 16)] _ ([.val (.agg #[.int .i64 x.prio, .int .i64 x.src.base.k, .int .i64 x.src.base.a, .int .i64 x.src.base.b, .int .i64 x.src.base.c, .int .i64 x.src.base.d, .int .i64 x.src.len, .int .i64 x.dst.base.k, .int .i64 x.dst.base.a, .int .i64 x.dst.base.b, .int .i64 x.dst.base.c, .int .i64 x.dst.base.d, .int .i64 x.dst.len, .int .i64 x.proto, .int .i64 x.slo, .int .i64 x.shi, .int .i64 x.dlo, .int .i64 x.dhi, .int .i64 x.tenant, .int .i64 x.weight, .int .i64 x.chain]), .bit true, .bit true, .val (.agg #[.int .i64 k.src.k, .int .i64 k.src.a, .int .i64 k.src.b, .int .i64 k.src.c, .int .i64 k.src.d, .int .i64 k.dst.k, .int .i64 k.dst.a, .int .i64 k.dst.b, .int .i64 k.dst.c, .int .i64 k.dst.d, .int .i64 k.proto, .int .i64 k.sport, .int .i64 k.dport]), .bit false, .bit false, .bit false, .skip, .skip, .skip, .skip, .val (.bool false)]) (by kernel_rfl) (by kernel_rfl) (by kernel_rfl) rfl rfl ?_ ?_
  · intro j o hj ho hr a' v K' hx hnd hB hK
    match j, hj, ho, hr with
    | 0, _, ho, _ =>
      obtain rfl := Option.some.inj ho
      have h0 : a'.eval (.tmp 2) = .pointer (some ⟨w.heap.size, 0, none⟩) := (hx 2 (by decide)).trans rfl
      exact r_row _ _ x rfl h0 (K.below hB q0.out) (hK _ _ rfl (Below.refl _ _))
    | 1, _, ho, _ =>
      obtain rfl := Option.some.inj ho
      have h0 : a'.eval (.tmp 5) = .agg #[.int .i64 x.prio, .int .i64 x.src.base.k, .int .i64 x.src.base.a, .int .i64 x.src.base.b, .int .i64 x.src.base.c, .int .i64 x.src.base.d, .int .i64 x.src.len, .int .i64 x.dst.base.k, .int .i64 x.dst.base.a, .int .i64 x.dst.base.b, .int .i64 x.dst.base.c, .int .i64 x.dst.base.d, .int .i64 x.dst.len, .int .i64 x.proto, .int .i64 x.slo, .int .i64 x.shi, .int .i64 x.dlo, .int .i64 x.dhi, .int .i64 x.tenant, .int .i64 x.weight, .int .i64 x.chain] := (gds_of hnd 0 5 (by kernel_rfl) :)
      refine u_okRI _ _ _ rfl h0 (Calls.mono (ruleOkIB x true H1.out _) ?_)
      rintro e' v' ⟨rfl, b6⟩
      exact ⟨_, rfl, hK _ _ rfl b6⟩
    | 2, _, ho, _ =>
      obtain rfl := Option.some.inj ho
      have h0 : a'.eval (.tmp 6) = .bool true := (gds_of hnd 1 6 (by kernel_rfl) :)
      exact r_move _ _ rfl h0 (hK _ _ rfl (Below.refl _ _))
    | 3, _, ho, _ =>
      obtain rfl := Option.some.inj ho
      have h0 : a'.eval (.tmp 3) = .pointer (some ⟨w.heap.size + 1, 0, none⟩) := (hx 3 (by decide)).trans rfl
      exact r_key _ _ k rfl h0 (K.below hB s0.out) (hK _ _ rfl (Below.refl _ _))
    | 4, _, ho, _ =>
      obtain rfl := Option.some.inj ho
      have h0 : a'.eval (.tmp 8) = .agg #[.int .i64 k.src.k, .int .i64 k.src.a, .int .i64 k.src.b, .int .i64 k.src.c, .int .i64 k.src.d, .int .i64 k.dst.k, .int .i64 k.dst.a, .int .i64 k.dst.b, .int .i64 k.dst.c, .int .i64 k.dst.d, .int .i64 k.proto, .int .i64 k.sport, .int .i64 k.dport] := (gds_of hnd 3 8 (by kernel_rfl) :)
      refine u_okKI _ _ _ rfl h0 (Calls.mono (keyOkIB k false H2.out _) ?_)
      rintro e' v' ⟨rfl, b6⟩
      exact ⟨_, rfl, hK _ _ rfl b6⟩
    | 5, _, ho, _ =>
      obtain rfl := Option.some.inj ho
      have h0 : a'.eval (.tmp 7) = .bool true := (gds_of hnd 2 7 (by kernel_rfl) :)
      have h1 : a'.eval (.tmp 9) = .bool false := (gds_of hnd 4 9 (by kernel_rfl) :)
      exact r_pick _ _ _ true _ rfl h0 h1 (hK _ _ rfl (Below.refl _ _))
    | 6, _, ho, _ =>
      obtain rfl := Option.some.inj ho
      have h0 : a'.eval (.tmp 10) = .bool false := (gds_of hnd 5 10 (by kernel_rfl) :)
      exact r_move _ _ rfl h0 (hK _ _ rfl (Below.refl _ _))
    | 7, _, ho, hr =>
      obtain rfl := Option.some.inj ho
      exact Bool.noConfusion (show false = true from hr)
    | 8, _, ho, hr =>
      obtain rfl := Option.some.inj ho
      exact Bool.noConfusion (show false = true from hr)
    | 9, _, ho, hr =>
      obtain rfl := Option.some.inj ho
      exact Bool.noConfusion (show false = true from hr)
    | 10, _, ho, hr =>
      obtain rfl := Option.some.inj ho
      exact Bool.noConfusion (show false = true from hr)
    | 11, _, ho, _ =>
      obtain rfl := Option.some.inj ho
      have h0 : a'.eval (.tmp 11) = .bool false := (gds_of hnd 6 11 (by kernel_rfl) :)
      exact r_pick _ _ _ false _ rfl h0 rfl (hK _ _ rfl (Below.refl _ _))
    | j + 12, hj, _, _ => omega
  · intro f v hf hB
    have e0 : f 0 = (.agg #[.int .i64 x.prio, .int .i64 x.src.base.k, .int .i64 x.src.base.a, .int .i64 x.src.base.b, .int .i64 x.src.base.c, .int .i64 x.src.base.d, .int .i64 x.src.len, .int .i64 x.dst.base.k, .int .i64 x.dst.base.a, .int .i64 x.dst.base.b, .int .i64 x.dst.base.c, .int .i64 x.dst.base.d, .int .i64 x.dst.len, .int .i64 x.proto, .int .i64 x.slo, .int .i64 x.shi, .int .i64 x.dlo, .int .i64 x.dhi, .int .i64 x.tenant, .int .i64 x.weight, .int .i64 x.chain]) := hf (0, 5) (by decide)
    have e1 : f 1 = (.bool true) := hf (1, 6) (by decide)
    have e2 : f 2 = (.bool true) := hf (2, 7) (by decide)
    have e3 : f 3 = (.agg #[.int .i64 k.src.k, .int .i64 k.src.a, .int .i64 k.src.b, .int .i64 k.src.c, .int .i64 k.src.d, .int .i64 k.dst.k, .int .i64 k.dst.a, .int .i64 k.dst.b, .int .i64 k.dst.c, .int .i64 k.dst.d, .int .i64 k.proto, .int .i64 k.sport, .int .i64 k.dport]) := hf (3, 8) (by decide)
    have e4 : f 4 = (.bool false) := hf (4, 9) (by decide)
    have e5 : f 5 = (.bool false) := hf (5, 10) (by decide)
    have e6 : f 6 = (.bool false) := hf (6, 11) (by decide)
    have e7 : f 7 = undef := hf (7, 12) (by decide)
    have e8 : f 8 = undef := hf (8, 13) (by decide)
    have e9 : f 9 = undef := hf (9, 14) (by decide)
    have e10 : f 10 = undef := hf (10, 15) (by decide)
    have e11 : f 11 = (.bool false) := hf (11, 16) (by decide)
    simp only [List.foldl_cons, List.foldl_nil, List.drop_succ_cons, List.drop_zero, e0, e1, e2, e3, e4, e5, e6, e7, e8, e9, e10, e11]
    clear e0 e1 e2 e3 e4 e5 e6 e7 e8 e9 e10 e11 hf
    go_simp
    have B1 := Lib.hid (bthen (Joins.below_alloc2 w _ _) hB)
    clear hB
    go_wp2
    go_ret
    exact ⟨rfl, B1.out⟩

set_option maxHeartbeats 4000000 in
theorem ruleHasI_yes (x : Ru) (k : Ky) (w : World) (h1 : x.ok = true) (h2 : k.ok = true) : Calls Try.prog 21 #[.agg #[.int .i64 x.prio, .int .i64 x.src.base.k, .int .i64 x.src.base.a, .int .i64 x.src.base.b, .int .i64 x.src.base.c, .int .i64 x.src.base.d, .int .i64 x.src.len, .int .i64 x.dst.base.k, .int .i64 x.dst.base.a, .int .i64 x.dst.base.b, .int .i64 x.dst.base.c, .int .i64 x.dst.base.d, .int .i64 x.dst.len, .int .i64 x.proto, .int .i64 x.slo, .int .i64 x.shi, .int .i64 x.dlo, .int .i64 x.dhi, .int .i64 x.tenant, .int .i64 x.weight, .int .i64 x.chain], .agg #[.int .i64 k.src.k, .int .i64 k.src.a, .int .i64 k.src.b, .int .i64 k.src.c, .int .i64 k.src.d, .int .i64 k.dst.k, .int .i64 k.dst.a, .int .i64 k.dst.b, .int .i64 k.dst.c, .int .i64 k.dst.d, .int .i64 k.proto, .int .i64 k.sport, .int .i64 k.dport]] w fun e w' => e = .returned (.bool (x.hits k)) ∧ Below w.heap.size w w' := by
  have q0 : Hid (((w.alloc (.cells #[.int .i64 x.prio, .int .i64 x.src.base.k, .int .i64 x.src.base.a, .int .i64 x.src.base.b, .int .i64 x.src.base.c, .int .i64 x.src.base.d, .int .i64 x.src.len, .int .i64 x.dst.base.k, .int .i64 x.dst.base.a, .int .i64 x.dst.base.b, .int .i64 x.dst.base.c, .int .i64 x.dst.base.d, .int .i64 x.dst.len, .int .i64 x.proto, .int .i64 x.slo, .int .i64 x.shi, .int .i64 x.dlo, .int .i64 x.dhi, .int .i64 x.tenant, .int .i64 x.weight, .int .i64 x.chain] 33)).alloc (.cells #[.int .i64 k.src.k, .int .i64 k.src.a, .int .i64 k.src.b, .int .i64 k.src.c, .int .i64 k.src.d, .int .i64 k.dst.k, .int .i64 k.dst.a, .int .i64 k.dst.b, .int .i64 k.dst.c, .int .i64 k.dst.d, .int .i64 k.proto, .int .i64 k.sport, .int .i64 k.dport] 40)).heap[w.heap.size]? = some (.cells #[.int .i64 x.prio, .int .i64 x.src.base.k, .int .i64 x.src.base.a, .int .i64 x.src.base.b, .int .i64 x.src.base.c, .int .i64 x.src.base.d, .int .i64 x.src.len, .int .i64 x.dst.base.k, .int .i64 x.dst.base.a, .int .i64 x.dst.base.b, .int .i64 x.dst.base.c, .int .i64 x.dst.base.d, .int .i64 x.dst.len, .int .i64 x.proto, .int .i64 x.slo, .int .i64 x.shi, .int .i64 x.dlo, .int .i64 x.dhi, .int .i64 x.tenant, .int .i64 x.weight, .int .i64 x.chain] 33 (0, 0))) := Lib.hid (by repeat (first | exact K.newAt (by first | rfl | (simp; done)) | refine K.oldAt (by first | (simp; done) | (simp; omega)) ?_))
  have s0 : Hid (((w.alloc (.cells #[.int .i64 x.prio, .int .i64 x.src.base.k, .int .i64 x.src.base.a, .int .i64 x.src.base.b, .int .i64 x.src.base.c, .int .i64 x.src.base.d, .int .i64 x.src.len, .int .i64 x.dst.base.k, .int .i64 x.dst.base.a, .int .i64 x.dst.base.b, .int .i64 x.dst.base.c, .int .i64 x.dst.base.d, .int .i64 x.dst.len, .int .i64 x.proto, .int .i64 x.slo, .int .i64 x.shi, .int .i64 x.dlo, .int .i64 x.dhi, .int .i64 x.tenant, .int .i64 x.weight, .int .i64 x.chain] 33)).alloc (.cells #[.int .i64 k.src.k, .int .i64 k.src.a, .int .i64 k.src.b, .int .i64 k.src.c, .int .i64 k.src.d, .int .i64 k.dst.k, .int .i64 k.dst.a, .int .i64 k.dst.b, .int .i64 k.dst.c, .int .i64 k.dst.d, .int .i64 k.proto, .int .i64 k.sport, .int .i64 k.dport] 40)).heap[w.heap.size + 1]? = some (.cells #[.int .i64 k.src.k, .int .i64 k.src.a, .int .i64 k.src.b, .int .i64 k.src.c, .int .i64 k.src.d, .int .i64 k.dst.k, .int .i64 k.dst.a, .int .i64 k.dst.b, .int .i64 k.dst.c, .int .i64 k.dst.d, .int .i64 k.proto, .int .i64 k.sport, .int .i64 k.dport] 40 (0, 0))) := Lib.hid (by repeat (first | exact K.newAt (by first | rfl | (simp; done)) | refine K.oldAt (by first | (simp; done) | (simp; omega)) ?_))
  have H1 := Lib.hid h1
  have H2 := Lib.hid h2
  clear h1 h2
  go_enter Try.func21, Try.ntmps21
  go_wp2_with fail
  refine wp_region_guards (by kernel_rfl) 12 17 [(0, 5), (1, 6), (2, 7), (3, 8), (4, 9), (5, 10), (6, 11), (7, 12), (8, 13), (9, 14), (10, 15), (11, 16)] _ ([.val (.agg #[.int .i64 x.prio, .int .i64 x.src.base.k, .int .i64 x.src.base.a, .int .i64 x.src.base.b, .int .i64 x.src.base.c, .int .i64 x.src.base.d, .int .i64 x.src.len, .int .i64 x.dst.base.k, .int .i64 x.dst.base.a, .int .i64 x.dst.base.b, .int .i64 x.dst.base.c, .int .i64 x.dst.base.d, .int .i64 x.dst.len, .int .i64 x.proto, .int .i64 x.slo, .int .i64 x.shi, .int .i64 x.dlo, .int .i64 x.dhi, .int .i64 x.tenant, .int .i64 x.weight, .int .i64 x.chain]), .bit true, .bit true, .val (.agg #[.int .i64 k.src.k, .int .i64 k.src.a, .int .i64 k.src.b, .int .i64 k.src.c, .int .i64 k.src.d, .int .i64 k.dst.k, .int .i64 k.dst.a, .int .i64 k.dst.b, .int .i64 k.dst.c, .int .i64 k.dst.d, .int .i64 k.proto, .int .i64 k.sport, .int .i64 k.dport]), .bit true, .bit true, .bit true, .val (.agg #[.int .i64 x.prio, .int .i64 x.src.base.k, .int .i64 x.src.base.a, .int .i64 x.src.base.b, .int .i64 x.src.base.c, .int .i64 x.src.base.d, .int .i64 x.src.len, .int .i64 x.dst.base.k, .int .i64 x.dst.base.a, .int .i64 x.dst.base.b, .int .i64 x.dst.base.c, .int .i64 x.dst.base.d, .int .i64 x.dst.len, .int .i64 x.proto, .int .i64 x.slo, .int .i64 x.shi, .int .i64 x.dlo, .int .i64 x.dhi, .int .i64 x.tenant, .int .i64 x.weight, .int .i64 x.chain]), (.pr (fun w v => ∃ g, v = .agg #[.func (.func 111) #[] #[.pointer (some ⟨g, 0, none⟩)], .func (.func 113) #[] #[.pointer (some ⟨g, 0, none⟩)], .func (.func 114) #[] #[.pointer (some ⟨g, 0, none⟩)], .func (.func 115) #[] #[.pointer (some ⟨g, 0, none⟩)], .func (.func 116) #[] #[.pointer (some ⟨g, 0, none⟩)]] ∧ w.heap[g]? = some (.cells #[.int .i64 x.prio, .int .i64 x.src.base.k, .int .i64 x.src.base.a, .int .i64 x.src.base.b, .int .i64 x.src.base.c, .int .i64 x.src.base.d, .int .i64 x.src.len, .int .i64 x.dst.base.k, .int .i64 x.dst.base.a, .int .i64 x.dst.base.b, .int .i64 x.dst.base.c, .int .i64 x.dst.base.d, .int .i64 x.dst.len, .int .i64 x.proto, .int .i64 x.slo, .int .i64 x.shi, .int .i64 x.dlo, .int .i64 x.dhi, .int .i64 x.tenant, .int .i64 x.weight, .int .i64 x.chain] 33 (0, 0))) (fun _ _ _ hb ⟨g, e, h⟩ => ⟨g, e, K.below hb h⟩)), .val (.agg #[.int .i64 k.src.k, .int .i64 k.src.a, .int .i64 k.src.b, .int .i64 k.src.c, .int .i64 k.src.d, .int .i64 k.dst.k, .int .i64 k.dst.a, .int .i64 k.dst.b, .int .i64 k.dst.c, .int .i64 k.dst.d, .int .i64 k.proto, .int .i64 k.sport, .int .i64 k.dport]), .val (.bool (x.hits k)), .val (.bool (x.hits k))]) (by kernel_rfl) (by kernel_rfl) (by kernel_rfl) rfl rfl ?_ ?_
  · intro j o hj ho hr a' v K' hx hnd hB hK
    match j, hj, ho, hr with
    | 0, _, ho, _ =>
      obtain rfl := Option.some.inj ho
      have h0 : a'.eval (.tmp 2) = .pointer (some ⟨w.heap.size, 0, none⟩) := (hx 2 (by decide)).trans rfl
      exact r_row _ _ x rfl h0 (K.below hB q0.out) (hK _ _ rfl (Below.refl _ _))
    | 1, _, ho, _ =>
      obtain rfl := Option.some.inj ho
      have h0 : a'.eval (.tmp 5) = .agg #[.int .i64 x.prio, .int .i64 x.src.base.k, .int .i64 x.src.base.a, .int .i64 x.src.base.b, .int .i64 x.src.base.c, .int .i64 x.src.base.d, .int .i64 x.src.len, .int .i64 x.dst.base.k, .int .i64 x.dst.base.a, .int .i64 x.dst.base.b, .int .i64 x.dst.base.c, .int .i64 x.dst.base.d, .int .i64 x.dst.len, .int .i64 x.proto, .int .i64 x.slo, .int .i64 x.shi, .int .i64 x.dlo, .int .i64 x.dhi, .int .i64 x.tenant, .int .i64 x.weight, .int .i64 x.chain] := (gds_of hnd 0 5 (by kernel_rfl) :)
      refine u_okRI _ _ _ rfl h0 (Calls.mono (ruleOkIB x true H1.out _) ?_)
      rintro e' v' ⟨rfl, b6⟩
      exact ⟨_, rfl, hK _ _ rfl b6⟩
    | 2, _, ho, _ =>
      obtain rfl := Option.some.inj ho
      have h0 : a'.eval (.tmp 6) = .bool true := (gds_of hnd 1 6 (by kernel_rfl) :)
      exact r_move _ _ rfl h0 (hK _ _ rfl (Below.refl _ _))
    | 3, _, ho, _ =>
      obtain rfl := Option.some.inj ho
      have h0 : a'.eval (.tmp 3) = .pointer (some ⟨w.heap.size + 1, 0, none⟩) := (hx 3 (by decide)).trans rfl
      exact r_key _ _ k rfl h0 (K.below hB s0.out) (hK _ _ rfl (Below.refl _ _))
    | 4, _, ho, _ =>
      obtain rfl := Option.some.inj ho
      have h0 : a'.eval (.tmp 8) = .agg #[.int .i64 k.src.k, .int .i64 k.src.a, .int .i64 k.src.b, .int .i64 k.src.c, .int .i64 k.src.d, .int .i64 k.dst.k, .int .i64 k.dst.a, .int .i64 k.dst.b, .int .i64 k.dst.c, .int .i64 k.dst.d, .int .i64 k.proto, .int .i64 k.sport, .int .i64 k.dport] := (gds_of hnd 3 8 (by kernel_rfl) :)
      refine u_okKI _ _ _ rfl h0 (Calls.mono (keyOkIB k true H2.out _) ?_)
      rintro e' v' ⟨rfl, b6⟩
      exact ⟨_, rfl, hK _ _ rfl b6⟩
    | 5, _, ho, _ =>
      obtain rfl := Option.some.inj ho
      have h0 : a'.eval (.tmp 7) = .bool true := (gds_of hnd 2 7 (by kernel_rfl) :)
      have h1 : a'.eval (.tmp 9) = .bool true := (gds_of hnd 4 9 (by kernel_rfl) :)
      exact r_pick _ _ _ true _ rfl h0 h1 (hK _ _ rfl (Below.refl _ _))
    | 6, _, ho, _ =>
      obtain rfl := Option.some.inj ho
      have h0 : a'.eval (.tmp 10) = .bool true := (gds_of hnd 5 10 (by kernel_rfl) :)
      exact r_move _ _ rfl h0 (hK _ _ rfl (Below.refl _ _))
    | 7, _, ho, _ =>
      obtain rfl := Option.some.inj ho
      have h0 : a'.eval (.tmp 2) = .pointer (some ⟨w.heap.size, 0, none⟩) := (hx 2 (by decide)).trans rfl
      exact r_row _ _ x rfl h0 (K.below hB q0.out) (hK _ _ rfl (Below.refl _ _))
    | 8, _, ho, _ =>
      obtain rfl := Option.some.inj ho
      have h0 : a'.eval (.tmp 12) = .agg #[.int .i64 x.prio, .int .i64 x.src.base.k, .int .i64 x.src.base.a, .int .i64 x.src.base.b, .int .i64 x.src.base.c, .int .i64 x.src.base.d, .int .i64 x.src.len, .int .i64 x.dst.base.k, .int .i64 x.dst.base.a, .int .i64 x.dst.base.b, .int .i64 x.dst.base.c, .int .i64 x.dst.base.d, .int .i64 x.dst.len, .int .i64 x.proto, .int .i64 x.slo, .int .i64 x.shi, .int .i64 x.dlo, .int .i64 x.dhi, .int .i64 x.tenant, .int .i64 x.weight, .int .i64 x.chain] := (gds_of hnd 7 12 (by kernel_rfl) :)
      refine u_compI _ _ _ rfl h0 (Calls.mono (compiledC x _) ?_)
      rintro e' v' ⟨g, rfl, hg, b6⟩
      exact ⟨_, rfl, hK _ _ ⟨g, rfl, hg⟩ b6⟩
    | 9, _, ho, _ =>
      obtain rfl := Option.some.inj ho
      have h0 : a'.eval (.tmp 3) = .pointer (some ⟨w.heap.size + 1, 0, none⟩) := (hx 3 (by decide)).trans rfl
      exact r_key _ _ k rfl h0 (K.below hB s0.out) (hK _ _ rfl (Below.refl _ _))
    | 10, _, ho, _ =>
      obtain rfl := Option.some.inj ho
      obtain ⟨g, h0, hg⟩ := (gds_of hnd 8 13 (by kernel_rfl) :)
      have h1 : a'.eval (.tmp 14) = .agg #[.int .i64 k.src.k, .int .i64 k.src.a, .int .i64 k.src.b, .int .i64 k.src.c, .int .i64 k.src.d, .int .i64 k.dst.k, .int .i64 k.dst.a, .int .i64 k.dst.b, .int .i64 k.dst.c, .int .i64 k.dst.d, .int .i64 k.proto, .int .i64 k.sport, .int .i64 k.dport] := (gds_of hnd 9 14 (by kernel_rfl) :)
      refine u_matchI _ _ _ _ _ rfl h0 h1 (Calls.mono (matchC x k g _ hg) ?_)
      rintro e' v' ⟨rfl, b6⟩
      exact ⟨_, rfl, hK _ _ rfl b6⟩
    | 11, _, ho, _ =>
      obtain rfl := Option.some.inj ho
      have h0 : a'.eval (.tmp 11) = .bool true := (gds_of hnd 6 11 (by kernel_rfl) :)
      have h1 : a'.eval (.tmp 15) = .bool (x.hits k) := (gds_of hnd 10 15 (by kernel_rfl) :)
      exact r_pick _ _ _ true _ rfl h0 h1 (hK _ _ rfl (Below.refl _ _))
    | j + 12, hj, _, _ => omega
  · intro f v hf hB
    have e0 : f 0 = (.agg #[.int .i64 x.prio, .int .i64 x.src.base.k, .int .i64 x.src.base.a, .int .i64 x.src.base.b, .int .i64 x.src.base.c, .int .i64 x.src.base.d, .int .i64 x.src.len, .int .i64 x.dst.base.k, .int .i64 x.dst.base.a, .int .i64 x.dst.base.b, .int .i64 x.dst.base.c, .int .i64 x.dst.base.d, .int .i64 x.dst.len, .int .i64 x.proto, .int .i64 x.slo, .int .i64 x.shi, .int .i64 x.dlo, .int .i64 x.dhi, .int .i64 x.tenant, .int .i64 x.weight, .int .i64 x.chain]) := hf (0, 5) (by decide)
    have e1 : f 1 = (.bool true) := hf (1, 6) (by decide)
    have e2 : f 2 = (.bool true) := hf (2, 7) (by decide)
    have e3 : f 3 = (.agg #[.int .i64 k.src.k, .int .i64 k.src.a, .int .i64 k.src.b, .int .i64 k.src.c, .int .i64 k.src.d, .int .i64 k.dst.k, .int .i64 k.dst.a, .int .i64 k.dst.b, .int .i64 k.dst.c, .int .i64 k.dst.d, .int .i64 k.proto, .int .i64 k.sport, .int .i64 k.dport]) := hf (3, 8) (by decide)
    have e4 : f 4 = (.bool true) := hf (4, 9) (by decide)
    have e5 : f 5 = (.bool true) := hf (5, 10) (by decide)
    have e6 : f 6 = (.bool true) := hf (6, 11) (by decide)
    have e7 : f 7 = (.agg #[.int .i64 x.prio, .int .i64 x.src.base.k, .int .i64 x.src.base.a, .int .i64 x.src.base.b, .int .i64 x.src.base.c, .int .i64 x.src.base.d, .int .i64 x.src.len, .int .i64 x.dst.base.k, .int .i64 x.dst.base.a, .int .i64 x.dst.base.b, .int .i64 x.dst.base.c, .int .i64 x.dst.base.d, .int .i64 x.dst.len, .int .i64 x.proto, .int .i64 x.slo, .int .i64 x.shi, .int .i64 x.dlo, .int .i64 x.dhi, .int .i64 x.tenant, .int .i64 x.weight, .int .i64 x.chain]) := hf (7, 12) (by decide)
    have e9 : f 9 = (.agg #[.int .i64 k.src.k, .int .i64 k.src.a, .int .i64 k.src.b, .int .i64 k.src.c, .int .i64 k.src.d, .int .i64 k.dst.k, .int .i64 k.dst.a, .int .i64 k.dst.b, .int .i64 k.dst.c, .int .i64 k.dst.d, .int .i64 k.proto, .int .i64 k.sport, .int .i64 k.dport]) := hf (9, 14) (by decide)
    have e10 : f 10 = (.bool (x.hits k)) := hf (10, 15) (by decide)
    have e11 : f 11 = (.bool (x.hits k)) := hf (11, 16) (by decide)
    simp only [List.foldl_cons, List.foldl_nil, List.drop_succ_cons, List.drop_zero, e0, e1, e2, e3, e4, e5, e6, e7, e9, e10, e11]
    clear e0 e1 e2 e3 e4 e5 e6 e7 e9 e10 e11 hf
    go_simp
    have B1 := Lib.hid (bthen (Joins.below_alloc2 w _ _) hB)
    clear hB
    go_wp2
    go_ret
    exact ⟨rfl, B1.out⟩

theorem ruleHasI (x : Ru) (k : Ky) (w : World) : Calls Try.prog 21 #[.agg #[.int .i64 x.prio, .int .i64 x.src.base.k, .int .i64 x.src.base.a, .int .i64 x.src.base.b, .int .i64 x.src.base.c, .int .i64 x.src.base.d, .int .i64 x.src.len, .int .i64 x.dst.base.k, .int .i64 x.dst.base.a, .int .i64 x.dst.base.b, .int .i64 x.dst.base.c, .int .i64 x.dst.base.d, .int .i64 x.dst.len, .int .i64 x.proto, .int .i64 x.slo, .int .i64 x.shi, .int .i64 x.dlo, .int .i64 x.dhi, .int .i64 x.tenant, .int .i64 x.weight, .int .i64 x.chain], .agg #[.int .i64 k.src.k, .int .i64 k.src.a, .int .i64 k.src.b, .int .i64 k.src.c, .int .i64 k.src.d, .int .i64 k.dst.k, .int .i64 k.dst.a, .int .i64 k.dst.b, .int .i64 k.dst.c, .int .i64 k.dst.d, .int .i64 k.proto, .int .i64 k.sport, .int .i64 k.dport]] w fun e w' => e = .returned (.bool (x.has k)) ∧ Below w.heap.size w w' := by
  cases h1 : x.ok with
  | false =>
    rw [show x.has k = false by simp [Ru.has, h1]]
    exact ruleHasI_no x k w h1
  | true =>
    cases h2 : k.ok with
    | false =>
      rw [show x.has k = false by simp [Ru.has, h2]]
      exact ruleHasI_key x k w h1 h2
    | true =>
      rw [show x.has k = x.hits k by simp [Ru.has, h1, h2]]
      exact ruleHasI_yes x k w h1 h2
theorem ruleHasIB (x : Ru) (k : Ky) (b : Bool) (h : x.has k = b) (w : World) : Calls Try.prog 21 #[.agg #[.int .i64 x.prio, .int .i64 x.src.base.k, .int .i64 x.src.base.a, .int .i64 x.src.base.b, .int .i64 x.src.base.c, .int .i64 x.src.base.d, .int .i64 x.src.len, .int .i64 x.dst.base.k, .int .i64 x.dst.base.a, .int .i64 x.dst.base.b, .int .i64 x.dst.base.c, .int .i64 x.dst.base.d, .int .i64 x.dst.len, .int .i64 x.proto, .int .i64 x.slo, .int .i64 x.shi, .int .i64 x.dlo, .int .i64 x.dhi, .int .i64 x.tenant, .int .i64 x.weight, .int .i64 x.chain], .agg #[.int .i64 k.src.k, .int .i64 k.src.a, .int .i64 k.src.b, .int .i64 k.src.c, .int .i64 k.src.d, .int .i64 k.dst.k, .int .i64 k.dst.a, .int .i64 k.dst.b, .int .i64 k.dst.c, .int .i64 k.dst.d, .int .i64 k.proto, .int .i64 k.sport, .int .i64 k.dport]] w fun e w' => e = .returned (.bool b) ∧ Below w.heap.size w w' := h ▸ ruleHasI x k w
end Go.Proofs.Ythfmjnebpdhdfaa
