/-
  For every list of rules and every stream key the law FnExactRuleFor returns true: impl.RuleFor answers what the model spec.RuleFor answers, and leaves the list as it was. No condition; the arguments read afterwards as before.
-/
import Derived.Test.YthfmjnebpdhdfaaKuF
import Derived.Test.YthfmjnebpdhdfaaRuEq
import Derived.Test.YthfmjnebpdhdfaaRows
import Derived.ShutString
namespace Go.Proofs.Ythfmjnebpdhdfaa
set_option maxRecDepth 100000
open Go.RowKit


section
variable {o : Oper} {a : Act} {w : World} {K : Act → World → Prop} {Q : Exit → Act → World → Prop}
theorem u_toRsS (x : Operand) (x0 : Value) (ts : Array TypeId) (ho : o.op = .call { callee := .value (.func 30), args := #[x], argTypes := ts }) (h0 : a.eval x = x0)
    (h : Calls Try.prog 30 #[x0] w fun e w' => ∃ v, e = .returned v ∧ K (a.put o.dst v) w') : o.wp Try.prog a w K Q := by
  unfold Oper.wp execOp
  simp only [ho, resolve, List.map_toArray, List.map_cons, List.map_nil, h0, show ∀ f, a.eval (.func f) = .func (.func f) #[] #[] from fun _ => rfl]
  go_simp
  exact h.mono fun e w' ⟨u, he, hk⟩ => by subst he; exact hk
theorem u_toKy (x : Operand) (x0 : Value) (ts : Array TypeId) (ho : o.op = .call { callee := .value (.func 20), args := #[x], argTypes := ts }) (h0 : a.eval x = x0)
    (h : Calls Try.prog 20 #[x0] w fun e w' => ∃ v, e = .returned v ∧ K (a.put o.dst v) w') : o.wp Try.prog a w K Q := by
  unfold Oper.wp execOp
  simp only [ho, resolve, List.map_toArray, List.map_cons, List.map_nil, h0, show ∀ f, a.eval (.func f) = .func (.func f) #[] #[] from fun _ => rfl]
  go_simp
  exact h.mono fun e w' ⟨u, he, hk⟩ => by subst he; exact hk
theorem u_forS (x y : Operand) (x0 x1 : Value) (ts : Array TypeId) (ho : o.op = .call { callee := .value (.func 33), args := #[x, y], argTypes := ts }) (h0 : a.eval x = x0) (h1 : a.eval y = x1)
    (h : Calls Try.prog 33 #[x0, x1] w fun e w' => ∃ v, e = .returned v ∧ K (a.put o.dst v) w') : o.wp Try.prog a w K Q := by
  unfold Oper.wp execOp
  simp only [ho, resolve, List.map_toArray, List.map_cons, List.map_nil, h0, h1, show ∀ f, a.eval (.func f) = .func (.func f) #[] #[] from fun _ => rfl]
  go_simp
  exact h.mono fun e w' ⟨u, he, hk⟩ => by subst he; exact hk
end

set_option maxHeartbeats 4000000 in
theorem lawRuleFor {w : World} (A : Option Addr) (n c : Nat) (rs : List Ru) (h : RIn w A n c rs) (ky : Ky) : Calls Try.prog 8 #[.slice A n c, ky.val] w fun e w' => e = .returned (.bool true) ∧ Below w.heap.size w w' := by
  unfold Ky.val
  have HL := Lib.hid h.len
  have R0 := Lib.hid h.row
  have hc := h.cap
  have hm := h.big
  have q0 := Lib.hid (K.new w (.cells #[.int .i64 ky.src.k, .int .i64 ky.src.a, .int .i64 ky.src.b, .int .i64 ky.src.c, .int .i64 ky.src.d, .int .i64 ky.dst.k, .int .i64 ky.dst.a, .int .i64 ky.dst.b, .int .i64 ky.dst.c, .int .i64 ky.dst.d, .int .i64 ky.proto, .int .i64 ky.sport, .int .i64 ky.dport] 37))
  obtain ⟨r0, hr0⟩ : ∃ r0, ruleFor rs ky = r0 := ⟨_, rfl⟩
  have HF := Lib.hid hr0
  clear h hr0
  go_enter Try.func8, Try.ntmps8
  go_wp2_with fail
  refine Calls.mono (szRuleS_C A n c 1048576 _ (by omega) (by omega) (Nat.le_trans hc hm)) ?_
  rintro e w1 ⟨r, rfl, hr, rfl⟩
  by_cases h0 : r < 0
  · clear hr
    go_wp2
    go_ret
    exact ⟨rfl, by go_grown⟩
  have hn : n ≤ 1048576 := by omega
  have hr1 : 0 ≤ r := by omega
  have q1 := q0
  have B1 := Lib.hid (Joins.below_alloc1 w (.cells #[.int .i64 ky.src.k, .int .i64 ky.src.a, .int .i64 ky.src.b, .int .i64 ky.src.c, .int .i64 ky.src.d, .int .i64 ky.dst.k, .int .i64 ky.dst.a, .int .i64 ky.dst.b, .int .i64 ky.dst.c, .int .i64 ky.dst.d, .int .i64 ky.proto, .int .i64 ky.sport, .int .i64 ky.dport] 37))
  have R1 := Lib.hid (R0.out.on B1.out)
  clear hr h0
  go_wp2_with fail
  refine wp_region_guards (by kernel_rfl) 5 33 [(0, 14), (1, 15), (2, 16), (3, 17), (4, 18)] _ ([.val (.slice A n c), (.pr (fun w v => ∃ g, v = .slice (some ⟨g, 0, none⟩) n n ∧ RV w w.heap.size (some ⟨g, 0, none⟩) (rcells rs)) (fun _ _ _ hb ⟨g, e, h⟩ => ⟨g, e, h.on hb⟩)), .val (.agg #[.int .i64 ky.src.k, .int .i64 ky.src.a, .int .i64 ky.src.b, .int .i64 ky.src.c, .int .i64 ky.src.d, .int .i64 ky.dst.k, .int .i64 ky.dst.a, .int .i64 ky.dst.b, .int .i64 ky.dst.c, .int .i64 ky.dst.d, .int .i64 ky.proto, .int .i64 ky.sport, .int .i64 ky.dport]), .val (.agg #[.int .i64 ky.src.k, .int .i64 ky.src.a, .int .i64 ky.src.b, .int .i64 ky.src.c, .int .i64 ky.src.d, .int .i64 ky.dst.k, .int .i64 ky.dst.a, .int .i64 ky.dst.b, .int .i64 ky.dst.c, .int .i64 ky.dst.d, .int .i64 ky.proto, .int .i64 ky.sport, .int .i64 ky.dport]), .val (.int .i64 r0)]) (by kernel_rfl) (by kernel_rfl) (by kernel_rfl) rfl rfl ?_ ?_
  · intro j o hj ho hr a' v K' hx hnd hB hK
    match j, hj, ho, hr with
    | 0, _, ho, _ =>
      obtain rfl := Option.some.inj ho
      have h0 : a'.eval (.tmp 0) = .slice A n c := (hx 0 (by decide)).trans rfl
      exact s_mv _ _ rfl h0 (hK _ _ rfl (Below.refl _ _))
    | 1, _, ho, _ =>
      obtain rfl := Option.some.inj ho
      have h0 : a'.eval (.tmp 14) = .slice A n c := (gds_of hnd 0 14 (by kernel_rfl) :)
      refine u_toRsS _ _ _ rfl h0 (Calls.mono (toRuleS_C A n c rs _ (R1.out.on hB) HL.out hn) ?_)
      rintro e' v' ⟨g, rfl, og, b6⟩
      exact ⟨_, rfl, hK _ _ ⟨g, rfl, RV.of_own og⟩ b6⟩
    | 2, _, ho, _ =>
      obtain rfl := Option.some.inj ho
      have h0 : a'.eval (.tmp 3) = .pointer (some ⟨w.heap.size, 0, none⟩) := (hx 3 (by decide)).trans rfl
      exact r_keyL _ _ ky rfl h0 (K.below hB q1.out) (hK _ _ rfl (Below.refl _ _))
    | 3, _, ho, _ =>
      obtain rfl := Option.some.inj ho
      have h0 : a'.eval (.tmp 16) = .agg #[.int .i64 ky.src.k, .int .i64 ky.src.a, .int .i64 ky.src.b, .int .i64 ky.src.c, .int .i64 ky.src.d, .int .i64 ky.dst.k, .int .i64 ky.dst.a, .int .i64 ky.dst.b, .int .i64 ky.dst.c, .int .i64 ky.dst.d, .int .i64 ky.proto, .int .i64 ky.sport, .int .i64 ky.dport] := (gds_of hnd 2 16 (by kernel_rfl) :)
      refine u_toKy _ _ _ rfl h0 (Calls.mono (toKeyC ky _) ?_)
      rintro e' v' ⟨rfl, b6⟩
      exact ⟨_, rfl, hK _ _ rfl b6⟩
    | 4, _, ho, _ =>
      obtain rfl := Option.some.inj ho
      obtain ⟨g, h0, rg⟩ := (gds_of hnd 1 15 (by kernel_rfl) :)
      have h1 : a'.eval (.tmp 17) = .agg #[.int .i64 ky.src.k, .int .i64 ky.src.a, .int .i64 ky.src.b, .int .i64 ky.src.c, .int .i64 ky.src.d, .int .i64 ky.dst.k, .int .i64 ky.dst.a, .int .i64 ky.dst.b, .int .i64 ky.dst.c, .int .i64 ky.dst.d, .int .i64 ky.proto, .int .i64 ky.sport, .int .i64 ky.dport] := (gds_of hnd 3 17 (by kernel_rfl) :)
      refine u_forS _ _ _ _ _ rfl h0 h1 (Calls.mono (ruleForS _ n n rs ky _ rg HL.out hn) ?_)
      rintro e' v' ⟨rfl, b6⟩
      rw [HF.out]
      exact ⟨_, rfl, hK _ _ rfl b6⟩
    | j + 5, hj, _, _ => omega
  · intro f v hf hB
    have e0 : f 0 = (.slice A n c) := hf (0, 14) (by decide)
    have e2 : f 2 = (.agg #[.int .i64 ky.src.k, .int .i64 ky.src.a, .int .i64 ky.src.b, .int .i64 ky.src.c, .int .i64 ky.src.d, .int .i64 ky.dst.k, .int .i64 ky.dst.a, .int .i64 ky.dst.b, .int .i64 ky.dst.c, .int .i64 ky.dst.d, .int .i64 ky.proto, .int .i64 ky.sport, .int .i64 ky.dport]) := hf (2, 16) (by decide)
    have e3 : f 3 = (.agg #[.int .i64 ky.src.k, .int .i64 ky.src.a, .int .i64 ky.src.b, .int .i64 ky.src.c, .int .i64 ky.src.d, .int .i64 ky.dst.k, .int .i64 ky.dst.a, .int .i64 ky.dst.b, .int .i64 ky.dst.c, .int .i64 ky.dst.d, .int .i64 ky.proto, .int .i64 ky.sport, .int .i64 ky.dport]) := hf (3, 17) (by decide)
    have e4 : f 4 = (.int .i64 r0) := hf (4, 18) (by decide)
    simp only [List.foldl_cons, List.foldl_nil, List.drop_succ_cons, List.drop_zero, e0, e2, e3, e4]
    clear e0 e2 e3 e4 hf
    go_simp
    have q2 := Lib.hid (K.below hB q1.out)
    have B2 := Lib.hid (bthen B1.out hB)
    clear hB
    go_wp2_with fail
    refine Calls.mono (toRuleS_C A n c rs _ (R0.out.on B2.out) HL.out hn) ?_
    rintro e w4 ⟨g4, rfl, o4, b4⟩
    have B4 := Lib.hid (bthen B2.out b4)
    have X4 := Lib.hid (RV.of_own o4)
    have q4 := Lib.hid (K.below b4 q2.out)
    clear o4 b4 B2 q2
    go_wp2_with (with_reducible refine loadKL rfl _ rfl w.heap.size rfl q4.out ?_)
    refine Calls.mono (toKeyC ky _) ?_
    rintro e w5 ⟨rfl, b5⟩
    have B5 := Lib.hid (bthen B4.out b5)
    have X5 := Lib.hid (X4.out.on b5)
    clear b5 B4 X4
    go_wp2_with fail
    refine Calls.mono (ruleForI _ n n rs ky _ X5.out HL.out hn) ?_
    rintro e w6 ⟨rfl, b6⟩
    rw [HF.out]
    have B6 := Lib.hid (bthen B5.out b6)
    have X6 := Lib.hid (X5.out.on b6)
    clear b6 B5 X5
    go_wp2_with fail
    refine Calls.mono (toRuleS_C A n c rs _ (R0.out.on B6.out) HL.out hn) ?_
    rintro e w7 ⟨g7, rfl, o7, b7⟩
    have B7 := Lib.hid (bthen B6.out b7)
    have X7 := Lib.hid (RV.of_own o7)
    have Y7 := Lib.hid (X6.out.on b7)
    clear o7 b7 B6 X6
    go_wp2_with fail
    refine Calls.mono (eqRuleS_C _ _ n n n rs _ Y7.out X7.out HL.out hn) ?_
    rintro e w8 ⟨rfl, b8⟩
    have B8 := Lib.hid (bthen B7.out b8)
    clear b8 B7 X7 Y7
    go_wp2
    go_ret
    exact ⟨rfl, B8.out⟩

namespace fnExactRuleFor
open Go.ChangeShapes Go.WideShapes Go.ChangeAt Go.RowKit
open Go.ChangeMaps (open_string shut_string)
theorem own : ownKnob Try.prog.godebug = none := by kernel_rfl
theorem laidOut : laidOutB Try.prog = true := by kernel_rfl

set_option maxRecDepth 100000 in
theorem lifted (os : Os) (started : os.Started) (H : Type) (enc : TypeId × Value → H) :
    ReturnsInHanded {} Try.checked os 8 .any (Rows.fnExactRuleForSpec.pre6 enc Try.prog Try.f8 Rows.fnExactRuleForRow.domain false) (Rows.fnExactRuleForSpec.post enc Try.prog Try.f8 false true false false) := by
  refine returnsInHanded_of_change (C := Try.checked) own started (by kernel_rfl) Try.func8
    (ChangeSpec.witness6 (enc := enc) (C := Try.checked) false ⟨#[], #[.slice none 0 0, .agg #[.int .i64 0, .int .i64 0, .int .i64 0, .int .i64 0, .int .i64 0, .int .i64 0, .int .i64 0, .int .i64 0, .int .i64 0, .int .i64 0, .int .i64 0, .int .i64 0, .int .i64 0]], []⟩ 8 (by kernel_rfl) (by kernel_rfl) (by kernel_rfl) (by kernel_rfl)) ?_
  intro W base args ds gs before hval0 hW _ _
  have hval : ∀ (j : Nat) t v, Try.f8.params[j]? = some t → args[j]? = some v → Value.okWide Try.prog W .any base t v := hval0
  have hW' := hW
  obtain ⟨p, q, hA0, hV, rfl, _, _⟩ := hW
  have hA : DataW.TrodAll enc Try.prog W 0 (fun _ => true) true Try.f8.params.toList args.toList ds p := hA0
  rw [Try.params8] at hA hval
  obtain ⟨v0, vs0, d0, ds0, p0, q0, hargs, rfl, rfl, h0, r0⟩ := trodAll_cons hA
  obtain ⟨v1, vs1, d1, ds1, p1, q1, rfl, rfl, rfl, h1, r1⟩ := trodAll_cons r0
  obtain ⟨rfl, rfl, rfl⟩ := trodAll_nil r1
  obtain rfl : args = #[v0, v1] := by cases args; simp_all
  obtain ⟨rfl, rfl⟩ := trodVars_none hV
  obtain ⟨a0, n0, c0, rfl⟩ := okWide_slice Try.underlying51 (hval 0 51 v0 rfl rfl)
  have k0 := h0
  have lt0 : ∀ x ∈ p0, x.block < W.heap.size := by obtain ⟨m, hm⟩ := k0; exact DataW.trod_lt m _ _ _ hm
  obtain ⟨b0, w0⟩ := rules_in h0
  have k1 := h1
  have lt1 : ∀ x ∈ p1, x.block < W.heap.size := by obtain ⟨m, hm⟩ := k1; exact DataW.trod_lt m _ _ _ hm
  obtain ⟨a1, rfl⟩ := key_in (hval 1 37 v1 rfl rfl) h1
  clear hA0 hval0
  refine (lawRuleFor a0 n0 c0 b0 w0 a1).mono fun e W' ⟨he, bel⟩ => ?_
  subst he
  exact ⟨_, rfl, _, _, _, [], _, [], hW', trodAll_mk1 (shut_bool Try.underlying4 _), (trodAll_cons_mk (Below.trod laidOut (by kernel_rfl) (of_decide_eq_true (by kernel_rfl)) k0 bel lt0) (trodAll_cons_mk (Below.trod laidOut (by kernel_rfl) (of_decide_eq_true (by kernel_rfl)) k1 bel lt1) trodAll_mk0)), rfl, bel.frame _, fun h => by cases h⟩

theorem proved : Rows.FnExactRuleForSaid :=
  OpenClaim.holds_of_wide 8 Try.f8 rfl rfl rfl rfl rfl rfl rfl ⟨rfl, rfl, rfl, rfl, rfl⟩ rfl rfl rfl rfl rfl (by kernel_rfl) Try.func8 (by kernel_rfl)
    (of_decide_eq_true (by kernel_rfl)) (by unfold Func.isWrapper; rw [if_neg (of_decide_eq_false (by kernel_rfl))]; exact ⟨rfl, rfl⟩)
    (fun os started H enc _ => lifted os started H enc)
#print axioms proved
end fnExactRuleFor
end Go.Proofs.Ythfmjnebpdhdfaa
