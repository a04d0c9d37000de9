/-
  RulesOk in the model.
-/
import Derived.Test.YthfmjnebpdhdfaaRuRow
import Derived.Test.YthfmjnebpdhdfaaRuleOkS
import Derived.Test.YthfmjnebpdhdfaaRegGuard
namespace Go.Proofs.Ythfmjnebpdhdfaa
set_option maxRecDepth 100000
open Go.RowKit


section
variable {o : Oper} {a : Act} {w : World} {K : Act → World → Prop} {Q : Exit → Act → World → Prop}
theorem s_mv (x : Operand) (v : Value) (ho : o.op = .move x) (hx : a.eval x = v) (hK : K (a.put o.dst v) w) : o.wp Try.prog a w K Q := by
  unfold Oper.wp execOp
  simp only [ho, hx]
  go_simp
  exact hK
theorem s_pk (x y : Operand) (t : Nat) (b : Bool) (v : Value) (ho : o.op = .pick (.tmp t) x y) (hc : a.eval (.tmp t) = .bool b) (hv : (if b then a.eval x else a.eval y) = v) (hK : K (a.put o.dst v) w) : o.wp Try.prog a w K Q := by
  cases b with
  | false =>
    have hw : a.eval y = v := hv
    unfold Oper.wp execOp
    simp only [ho, hc, hw]
    go_simp
    exact hK
  | true =>
    have hw : a.eval x = v := hv
    unfold Oper.wp execOp
    simp only [ho, hc, hw]
    go_simp
    exact hK
theorem s_ix (x y : Operand) (g of n c k : Nat) (ho : o.op = .indexAddr 54 x y) (hx : a.eval x = .slice (some ⟨g, of, none⟩) n c) (hy : a.eval y = .int .i64 (k : Int)) (hk : k < n) (hK : K (a.put o.dst (.pointer (some ⟨g, of + k * 21, none⟩))) w) : o.wp Try.prog a w K Q := by
  unfold Oper.wp execOp
  simp only [ho, hx, hy]
  go_simp
  exact hK
theorem s_ld (x : Operand) (g of : Nat) (r : Ru) (ho : o.op = .load 33 x) (hx : a.eval x = .pointer (some ⟨g, of, none⟩)) (hc : w.rangeAt g of r.cells) (hK : K (a.put o.dst (.agg #[.int .i64 r.prio, .int .i64 r.src.base.k, .int .i64 r.src.base.a, .int .i64 r.src.base.b, .int .i64 r.src.base.c, .int .i64 r.src.base.d, .int .i64 r.src.len, .int .i64 r.dst.base.k, .int .i64 r.dst.base.a, .int .i64 r.dst.base.b, .int .i64 r.dst.base.c, .int .i64 r.dst.base.d, .int .i64 r.dst.len, .int .i64 r.proto, .int .i64 r.slo, .int .i64 r.shi, .int .i64 r.dlo, .int .i64 r.dhi, .int .i64 r.tenant, .int .i64 r.weight, .int .i64 r.chain])) w) : o.wp Try.prog a w K Q :=
  wp_load_mid 33 x ho g of hx r.cells _ hc Try.underlying33 rfl info_rule hK
theorem s_not (x : Operand) (ty : TypeId) (b : Bool) (ho : o.op = .unOp .not ty x) (hx : a.eval x = .bool b) (hK : K (a.put o.dst (.bool (!b))) w) : o.wp Try.prog a w K Q := by
  unfold Oper.wp execOp
  simp only [ho, hx]
  go_simp
  exact hK
theorem s_gt0 (x : Operand) (k : Nat) (b : Bool) (ho : o.op = .binOp .gtr 3 x (.const (.int .i64 0)) 3) (hx : a.eval x = .int .i64 (k : Int)) (h : decide (0 < k) = b) (hK : K (a.put o.dst (.bool b)) w) : o.wp Try.prog a w K Q := by
  subst h
  unfold Oper.wp execOp
  simp only [ho, hx]
  go_simp
  exact hK
theorem s_sub1 (x : Operand) (k m : Nat) (ho : o.op = .binOp .sub 3 x (.const (.int .i64 1)) 3) (hx : a.eval x = .int .i64 (k : Int)) (h : k = m + 1 ∧ k ≤ 1048576) (hK : K (a.put o.dst (.int .i64 (m : Int))) w) : o.wp Try.prog a w K Q := by
  obtain ⟨rfl, h2⟩ := h
  unfold Oper.wp execOp
  simp only [ho, hx]
  go_simp
  rw [show IntKind.i64.wrap (m : Int) = (m : Int) by rw [IntKind.wrap_i64]; omega]
  exact hK
theorem s_f0 (x : Operand) (g of : Nat) (ho : o.op = .fieldAddr 33 x 0) (hx : a.eval x = .pointer (some ⟨g, of, none⟩)) (hK : K (a.put o.dst (.pointer (some ⟨g, of, none⟩))) w) : o.wp Try.prog a w K Q := by
  unfold Oper.wp execOp
  simp only [ho, hx]
  go_simp
  exact hK
theorem s_in (x : Operand) (g j : Nat) (v : Value) (ho : o.op = .load 3 x) (hx : a.eval x = .pointer (some ⟨g, j, none⟩)) (hc : w.cell? ⟨g, j, none⟩ = some v) (hK : K (a.put o.dst v) w) : o.wp Try.prog a w K Q := by
  unfold Oper.wp execOp
  simp only [ho, hx]
  go_simp
  exact hK
theorem s_ge (x y : Operand) (m n : Int) (b : Bool) (ho : o.op = .binOp .geq 3 x y 3) (hx : a.eval x = .int .i64 m) (hy : a.eval y = .int .i64 n) (h : decide (n ≤ m) = b) (hK : K (a.put o.dst (.bool b)) w) : o.wp Try.prog a w K Q := by
  subst h
  unfold Oper.wp execOp
  simp only [ho, hx, hy]
  go_simp
  exact hK
theorem u_okRS (x : Operand) (x0 : Value) (ts : Array TypeId) (ho : o.op = .call { callee := .value (.func 16), args := #[x], argTypes := ts }) (h0 : a.eval x = x0)
    (h : Calls Try.prog 16 #[x0] w fun e w' => ∃ v, e = .returned v ∧ K (a.put o.dst v) w') : o.wp Try.prog a w K Q := by
  unfold Oper.wp execOp
  simp only [ho, resolve, List.map_toArray, List.map_cons, List.map_nil, h0, show ∀ f, a.eval (.func f) = .func (.func f) #[] #[] from fun _ => rfl]
  go_simp
  exact h.mono fun e w' ⟨u, he, hk⟩ => by subst he; exact hk
end

set_option maxHeartbeats 2000000 in
theorem rulesOkS (A : Option Addr) (n c : Nat) (rs : List Ru) (w : World) (hx : RV w w.heap.size A (rcells rs)) (hl : rs.length = n) (hn : n ≤ 1048576) :
    Calls Try.prog 29 #[.slice A n c] w fun e w' => e = .returned (.bool (rulesOk rs)) ∧ Below w.heap.size w w' := by
  by_cases h32 : (32 : Int) < n
  · have HR := Lib.hid (rulesOk_long (rs := rs) (by omega))
    clear hx hl
    go_enter Try.func29, Try.ntmps29
    go_wp2
    go_ret
    exact ⟨ret_bool HR.out.symm, by go_grown⟩
  · have HX := Lib.hid hx
    have HL := Lib.hid hl
    have h33 : n ≤ 32 := by omega
    clear hx hl
    go_enter Try.func29, Try.ntmps29
    go_wp2
    go_loopw [3] (fun i wr => ∃ k : Nat, k ≤ n ∧ i = .int .i64 k ∧ Hid (goodN rs k = true) ∧ Hid (Below w.heap.size w wr)) (fun i _ => n - (intOf i).toNat)
    case atStart => exact ⟨0, Nat.zero_le _, rfl, Lib.hid rfl, Lib.hid (Below.refl _ _)⟩
    case round =>
      obtain ⟨k, hk, rfl, hg, hb⟩ := hrel
      by_cases hlt : k < n
      · have hk1 : k < rs.length := by rw [HL.out]; exact hlt
        obtain ⟨g, o, rfl, hgl, hc0⟩ := HX.out.rule hk1
        have hc := Lib.hid (fun (v : World) (hv : Below wr.heap.size wr v) => (show v.rangeAt g (o + k * 21) rs[k].cells from fun j u hu => ((bthen hb.out hv).cell (p := ⟨g, o + k * 21 + j, none⟩) hgl).trans (hc0 j u hu)))
        have HNo := Lib.hid (rulesOk_bad hk1)
        have HS := Lib.hid (goodN_succ hk1)
        have HM := Lib.hid (fun (m : Nat) (hm : k = m + 1) => (show ∃ l : Int, lastP rs k = l ∧ ∀ v, Below wr.heap.size wr v → v.cell? ⟨g, o + m * 21, none⟩ = some (.int .i64 l) from by
          subst hm
          obtain ⟨g2, o2, e2, hg2, hc2⟩ := HX.out.rule (i := m) (by omega)
          obtain ⟨rfl, rfl⟩ : g = g2 ∧ o = o2 := by injection e2 with e2; injection e2 with e3 e4; exact ⟨e3, e4⟩
          exact ⟨rs[m].prio, lastP_succ (by omega), fun v hv => ((bthen hb.out hv).cell (p := ⟨g, o + m * 21, none⟩) hgl).trans (hc2 0 _ rfl)⟩))
        have H0 := Lib.hid (show lastP rs 0 = 0 from rfl)
        clear hc0 hgl
        generalize rs[k] = y at *
        cases hok : y.ok with
        | false =>
          have HOK := Lib.hid hok
          clear hok HM H0
          go_wp2_with fail
          refine wp_region_guards (by kernel_rfl) 23 37 [(0, 13), (1, 14), (2, 15), (3, 16), (4, 17), (5, 18), (6, 19), (7, 20), (8, 21), (9, 22), (10, 23), (11, 24), (12, 25), (13, 26), (14, 27), (15, 28), (16, 29), (17, 30), (18, 31), (19, 32), (20, 33), (21, 34), (22, 35)] _ ([.val (.slice (some ⟨g, o, none⟩) n c), .val (.int .i64 (k : Int)), .val (.pointer (some ⟨g, o + k * 21, none⟩)), .val (.agg #[.int .i64 y.prio, .int .i64 y.src.base.k, .int .i64 y.src.base.a, .int .i64 y.src.base.b, .int .i64 y.src.base.c, .int .i64 y.src.base.d, .int .i64 y.src.len, .int .i64 y.dst.base.k, .int .i64 y.dst.base.a, .int .i64 y.dst.base.b, .int .i64 y.dst.base.c, .int .i64 y.dst.base.d, .int .i64 y.dst.len, .int .i64 y.proto, .int .i64 y.slo, .int .i64 y.shi, .int .i64 y.dlo, .int .i64 y.dhi, .int .i64 y.tenant, .int .i64 y.weight, .int .i64 y.chain]), .bit false, .bit true, .bit true, .skip, .skip, .skip, .skip, .skip, .skip, .skip, .skip, .skip, .skip, .skip, .skip, .skip, .skip, .skip, .skip]) (by kernel_rfl) (by kernel_rfl) (by kernel_rfl) rfl rfl ?_ ?_
          · intro j o hj ho hr a' v K' hx hnd hB hK
            match j, hj, ho, hr with
            | 0, _, ho, _ =>
              obtain rfl := Option.some.inj ho
              have h0 : a'.eval (.tmp 0) = .slice (some ⟨g, o, none⟩) n c := (hx 0 (by decide)).trans rfl
              exact s_mv _ _ rfl h0 (hK _ _ rfl (Below.refl _ _))
            | 1, _, ho, _ =>
              obtain rfl := Option.some.inj ho
              have h0 : a'.eval (.tmp 3) = .int .i64 (k : Int) := (hx 3 (by decide)).trans rfl
              exact s_mv _ _ rfl h0 (hK _ _ rfl (Below.refl _ _))
            | 2, _, ho, _ =>
              obtain rfl := Option.some.inj ho
              have h0 : a'.eval (.tmp 13) = .slice (some ⟨g, o, none⟩) n c := (gds_of hnd 0 13 (by kernel_rfl) :)
              have h1 : a'.eval (.tmp 14) = .int .i64 (k : Int) := (gds_of hnd 1 14 (by kernel_rfl) :)
              exact s_ix _ _ _ _ _ _ _ rfl h0 h1 hlt (hK _ _ rfl (Below.refl _ _))
            | 3, _, ho, _ =>
              obtain rfl := Option.some.inj ho
              have h0 : a'.eval (.tmp 15) = .pointer (some ⟨g, o + k * 21, none⟩) := (gds_of hnd 2 15 (by kernel_rfl) :)
              exact s_ld _ _ _ y rfl h0 (hc.out _ hB) (hK _ _ rfl (Below.refl _ _))
            | 4, _, ho, _ =>
              obtain rfl := Option.some.inj ho
              have h0 : a'.eval (.tmp 16) = .agg #[.int .i64 y.prio, .int .i64 y.src.base.k, .int .i64 y.src.base.a, .int .i64 y.src.base.b, .int .i64 y.src.base.c, .int .i64 y.src.base.d, .int .i64 y.src.len, .int .i64 y.dst.base.k, .int .i64 y.dst.base.a, .int .i64 y.dst.base.b, .int .i64 y.dst.base.c, .int .i64 y.dst.base.d, .int .i64 y.dst.len, .int .i64 y.proto, .int .i64 y.slo, .int .i64 y.shi, .int .i64 y.dlo, .int .i64 y.dhi, .int .i64 y.tenant, .int .i64 y.weight, .int .i64 y.chain] := (gds_of hnd 3 16 (by kernel_rfl) :)
              refine u_okRS _ _ _ rfl h0 (Calls.mono (ruleOkSB y false HOK.out _) ?_)
              rintro e' v' ⟨rfl, b6⟩
              exact ⟨_, rfl, hK _ _ rfl b6⟩
            | 5, _, ho, _ =>
              obtain rfl := Option.some.inj ho
              have h0 : a'.eval (.tmp 17) = .bool false := (gds_of hnd 4 17 (by kernel_rfl) :)
              exact s_not _ _ false rfl h0 (hK _ _ rfl (Below.refl _ _))
            | 6, _, ho, _ =>
              obtain rfl := Option.some.inj ho
              have h0 : a'.eval (.tmp 18) = .bool true := (gds_of hnd 5 18 (by kernel_rfl) :)
              exact s_mv _ _ rfl h0 (hK _ _ rfl (Below.refl _ _))
            | 7, _, ho, hr =>
              obtain rfl := Option.some.inj ho
              exact Bool.noConfusion (show false = true from hr)
            | 8, _, ho, hr =>
              obtain rfl := Option.some.inj ho
              exact Bool.noConfusion (show false = true from hr)
            | 9, _, ho, hr =>
              obtain rfl := Option.some.inj ho
              exact Bool.noConfusion (show false = true from hr)
            | 10, _, ho, hr =>
              obtain rfl := Option.some.inj ho
              exact Bool.noConfusion (show false = true from hr)
            | 11, _, ho, hr =>
              obtain rfl := Option.some.inj ho
              exact Bool.noConfusion (show false = true from hr)
            | 12, _, ho, hr =>
              obtain rfl := Option.some.inj ho
              exact Bool.noConfusion (show false = true from hr)
            | 13, _, ho, hr =>
              obtain rfl := Option.some.inj ho
              exact Bool.noConfusion (show false = true from hr)
            | 14, _, ho, hr =>
              obtain rfl := Option.some.inj ho
              exact Bool.noConfusion (show false = true from hr)
            | 15, _, ho, hr =>
              obtain rfl := Option.some.inj ho
              exact Bool.noConfusion (show false = true from hr)
            | 16, _, ho, hr =>
              obtain rfl := Option.some.inj ho
              exact Bool.noConfusion (show false = true from hr)
            | 17, _, ho, hr =>
              obtain rfl := Option.some.inj ho
              exact Bool.noConfusion (show false = true from hr)
            | 18, _, ho, hr =>
              obtain rfl := Option.some.inj ho
              exact Bool.noConfusion (show false = true from hr)
            | 19, _, ho, hr =>
              obtain rfl := Option.some.inj ho
              exact Bool.noConfusion (show false = true from hr)
            | 20, _, ho, hr =>
              obtain rfl := Option.some.inj ho
              exact Bool.noConfusion (show false = true from hr)
            | 21, _, ho, hr =>
              obtain rfl := Option.some.inj ho
              exact Bool.noConfusion (show false = true from hr)
            | 22, _, ho, hr =>
              obtain rfl := Option.some.inj ho
              exact Bool.noConfusion (show false = true from hr)
            | j + 23, hj, _, _ => omega
          · intro f v hf hB
            have e0 : f 0 = (.slice (some ⟨g, o, none⟩) n c) := hf (0, 13) (by decide)
            have e1 : f 1 = (.int .i64 (k : Int)) := hf (1, 14) (by decide)
            have e2 : f 2 = (.pointer (some ⟨g, o + k * 21, none⟩)) := hf (2, 15) (by decide)
            have e3 : f 3 = (.agg #[.int .i64 y.prio, .int .i64 y.src.base.k, .int .i64 y.src.base.a, .int .i64 y.src.base.b, .int .i64 y.src.base.c, .int .i64 y.src.base.d, .int .i64 y.src.len, .int .i64 y.dst.base.k, .int .i64 y.dst.base.a, .int .i64 y.dst.base.b, .int .i64 y.dst.base.c, .int .i64 y.dst.base.d, .int .i64 y.dst.len, .int .i64 y.proto, .int .i64 y.slo, .int .i64 y.shi, .int .i64 y.dlo, .int .i64 y.dhi, .int .i64 y.tenant, .int .i64 y.weight, .int .i64 y.chain]) := hf (3, 16) (by decide)
            have e4 : f 4 = (.bool false) := hf (4, 17) (by decide)
            have e5 : f 5 = (.bool true) := hf (5, 18) (by decide)
            have e6 : f 6 = (.bool true) := hf (6, 19) (by decide)
            have e7 : f 7 = undef := hf (7, 20) (by decide)
            have e8 : f 8 = undef := hf (8, 21) (by decide)
            have e9 : f 9 = undef := hf (9, 22) (by decide)
            have e10 : f 10 = undef := hf (10, 23) (by decide)
            have e11 : f 11 = undef := hf (11, 24) (by decide)
            have e12 : f 12 = undef := hf (12, 25) (by decide)
            have e13 : f 13 = undef := hf (13, 26) (by decide)
            have e14 : f 14 = undef := hf (14, 27) (by decide)
            have e15 : f 15 = undef := hf (15, 28) (by decide)
            have e16 : f 16 = undef := hf (16, 29) (by decide)
            have e17 : f 17 = undef := hf (17, 30) (by decide)
            have e18 : f 18 = undef := hf (18, 31) (by decide)
            have e19 : f 19 = undef := hf (19, 32) (by decide)
            have e20 : f 20 = undef := hf (20, 33) (by decide)
            have e21 : f 21 = undef := hf (21, 34) (by decide)
            have e22 : f 22 = undef := hf (22, 35) (by decide)
            simp only [List.foldl_cons, List.foldl_nil, List.drop_succ_cons, List.drop_zero, e0, e1, e2, e3, e4, e5, e6, e7, e8, e9, e10, e11, e12, e13, e14, e15, e16, e17, e18, e19, e20, e21, e22]
            clear e0 e1 e2 e3 e4 e5 e6 e7 e8 e9 e10 e11 e12 e13 e14 e15 e16 e17 e18 e19 e20 e21 e22 hf
            go_simp
            have B2 := Lib.hid (bthen hb.out hB)
            clear hB
            go_wp2
            first | go_ret | go_ret3
            exact ⟨ret_bool (HNo.out (by rw [HOK.out]; rfl)).symm, B2.out⟩
        | true =>
          have HOK := Lib.hid hok
          have HPR := Lib.hid (Ru.prio_pos hok)
          clear hok
          cases k with
          | zero =>
            have hk0 : decide (0 < (0 : Nat)) = false := rfl
            clear HM
            go_wp2_with fail
            refine wp_region_guards (by kernel_rfl) 23 37 [(0, 13), (1, 14), (2, 15), (3, 16), (4, 17), (5, 18), (6, 19), (7, 20), (8, 21), (9, 22), (10, 23), (11, 24), (12, 25), (13, 26), (14, 27), (15, 28), (16, 29), (17, 30), (18, 31), (19, 32), (20, 33), (21, 34), (22, 35)] _ ([.val (.slice (some ⟨g, o, none⟩) n c), .val (.int .i64 ((0 : Nat) : Int)), .val (.pointer (some ⟨g, o + (0 : Nat) * 21, none⟩)), .val (.agg #[.int .i64 y.prio, .int .i64 y.src.base.k, .int .i64 y.src.base.a, .int .i64 y.src.base.b, .int .i64 y.src.base.c, .int .i64 y.src.base.d, .int .i64 y.src.len, .int .i64 y.dst.base.k, .int .i64 y.dst.base.a, .int .i64 y.dst.base.b, .int .i64 y.dst.base.c, .int .i64 y.dst.base.d, .int .i64 y.dst.len, .int .i64 y.proto, .int .i64 y.slo, .int .i64 y.shi, .int .i64 y.dlo, .int .i64 y.dhi, .int .i64 y.tenant, .int .i64 y.weight, .int .i64 y.chain]), .bit true, .bit false, .bit false, .val (.int .i64 ((0 : Nat) : Int)), .bit false, .bit false, .skip, .skip, .skip, .skip, .skip, .skip, .skip, .skip, .skip, .skip, .skip, .skip, .val (.bool false)]) (by kernel_rfl) (by kernel_rfl) (by kernel_rfl) rfl rfl ?_ ?_
            · intro j o hj ho hr a' v K' hx hnd hB hK
              match j, hj, ho, hr with
              | 0, _, ho, _ =>
                obtain rfl := Option.some.inj ho
                have h0 : a'.eval (.tmp 0) = .slice (some ⟨g, o, none⟩) n c := (hx 0 (by decide)).trans rfl
                exact s_mv _ _ rfl h0 (hK _ _ rfl (Below.refl _ _))
              | 1, _, ho, _ =>
                obtain rfl := Option.some.inj ho
                have h0 : a'.eval (.tmp 3) = .int .i64 ((0 : Nat) : Int) := (hx 3 (by decide)).trans rfl
                exact s_mv _ _ rfl h0 (hK _ _ rfl (Below.refl _ _))
              | 2, _, ho, _ =>
                obtain rfl := Option.some.inj ho
                have h0 : a'.eval (.tmp 13) = .slice (some ⟨g, o, none⟩) n c := (gds_of hnd 0 13 (by kernel_rfl) :)
                have h1 : a'.eval (.tmp 14) = .int .i64 ((0 : Nat) : Int) := (gds_of hnd 1 14 (by kernel_rfl) :)
                exact s_ix _ _ _ _ _ _ _ rfl h0 h1 hlt (hK _ _ rfl (Below.refl _ _))
              | 3, _, ho, _ =>
                obtain rfl := Option.some.inj ho
                have h0 : a'.eval (.tmp 15) = .pointer (some ⟨g, o + (0 : Nat) * 21, none⟩) := (gds_of hnd 2 15 (by kernel_rfl) :)
                exact s_ld _ _ _ y rfl h0 (hc.out _ hB) (hK _ _ rfl (Below.refl _ _))
              | 4, _, ho, _ =>
                obtain rfl := Option.some.inj ho
                have h0 : a'.eval (.tmp 16) = .agg #[.int .i64 y.prio, .int .i64 y.src.base.k, .int .i64 y.src.base.a, .int .i64 y.src.base.b, .int .i64 y.src.base.c, .int .i64 y.src.base.d, .int .i64 y.src.len, .int .i64 y.dst.base.k, .int .i64 y.dst.base.a, .int .i64 y.dst.base.b, .int .i64 y.dst.base.c, .int .i64 y.dst.base.d, .int .i64 y.dst.len, .int .i64 y.proto, .int .i64 y.slo, .int .i64 y.shi, .int .i64 y.dlo, .int .i64 y.dhi, .int .i64 y.tenant, .int .i64 y.weight, .int .i64 y.chain] := (gds_of hnd 3 16 (by kernel_rfl) :)
                refine u_okRS _ _ _ rfl h0 (Calls.mono (ruleOkSB y true HOK.out _) ?_)
                rintro e' v' ⟨rfl, b6⟩
                exact ⟨_, rfl, hK _ _ rfl b6⟩
              | 5, _, ho, _ =>
                obtain rfl := Option.some.inj ho
                have h0 : a'.eval (.tmp 17) = .bool true := (gds_of hnd 4 17 (by kernel_rfl) :)
                exact s_not _ _ true rfl h0 (hK _ _ rfl (Below.refl _ _))
              | 6, _, ho, _ =>
                obtain rfl := Option.some.inj ho
                have h0 : a'.eval (.tmp 18) = .bool false := (gds_of hnd 5 18 (by kernel_rfl) :)
                exact s_mv _ _ rfl h0 (hK _ _ rfl (Below.refl _ _))
              | 7, _, ho, _ =>
                obtain rfl := Option.some.inj ho
                have h0 : a'.eval (.tmp 3) = .int .i64 ((0 : Nat) : Int) := (hx 3 (by decide)).trans rfl
                exact s_mv _ _ rfl h0 (hK _ _ rfl (Below.refl _ _))
              | 8, _, ho, _ =>
                obtain rfl := Option.some.inj ho
                have h0 : a'.eval (.tmp 20) = .int .i64 ((0 : Nat) : Int) := (gds_of hnd 7 20 (by kernel_rfl) :)
                exact s_gt0 _ _ false rfl h0 hk0 (hK _ _ rfl (Below.refl _ _))
              | 9, _, ho, _ =>
                obtain rfl := Option.some.inj ho
                have h0 : a'.eval (.tmp 21) = .bool false := (gds_of hnd 8 21 (by kernel_rfl) :)
                exact s_mv _ _ rfl h0 (hK _ _ rfl (Below.refl _ _))
              | 10, _, ho, hr =>
                obtain rfl := Option.some.inj ho
                exact Bool.noConfusion (show false = true from hr)
              | 11, _, ho, hr =>
                obtain rfl := Option.some.inj ho
                exact Bool.noConfusion (show false = true from hr)
              | 12, _, ho, hr =>
                obtain rfl := Option.some.inj ho
                exact Bool.noConfusion (show false = true from hr)
              | 13, _, ho, hr =>
                obtain rfl := Option.some.inj ho
                exact Bool.noConfusion (show false = true from hr)
              | 14, _, ho, hr =>
                obtain rfl := Option.some.inj ho
                exact Bool.noConfusion (show false = true from hr)
              | 15, _, ho, hr =>
                obtain rfl := Option.some.inj ho
                exact Bool.noConfusion (show false = true from hr)
              | 16, _, ho, hr =>
                obtain rfl := Option.some.inj ho
                exact Bool.noConfusion (show false = true from hr)
              | 17, _, ho, hr =>
                obtain rfl := Option.some.inj ho
                exact Bool.noConfusion (show false = true from hr)
              | 18, _, ho, hr =>
                obtain rfl := Option.some.inj ho
                exact Bool.noConfusion (show false = true from hr)
              | 19, _, ho, hr =>
                obtain rfl := Option.some.inj ho
                exact Bool.noConfusion (show false = true from hr)
              | 20, _, ho, hr =>
                obtain rfl := Option.some.inj ho
                exact Bool.noConfusion (show false = true from hr)
              | 21, _, ho, hr =>
                obtain rfl := Option.some.inj ho
                exact Bool.noConfusion (show false = true from hr)
              | 22, _, ho, _ =>
                obtain rfl := Option.some.inj ho
                have h0 : a'.eval (.tmp 22) = .bool false := (gds_of hnd 9 22 (by kernel_rfl) :)
                exact s_pk _ _ _ false _ rfl h0 rfl (hK _ _ rfl (Below.refl _ _))
              | j + 23, hj, _, _ => omega
            · intro f v hf hB
              have e0 : f 0 = (.slice (some ⟨g, o, none⟩) n c) := hf (0, 13) (by decide)
              have e1 : f 1 = (.int .i64 ((0 : Nat) : Int)) := hf (1, 14) (by decide)
              have e2 : f 2 = (.pointer (some ⟨g, o + (0 : Nat) * 21, none⟩)) := hf (2, 15) (by decide)
              have e3 : f 3 = (.agg #[.int .i64 y.prio, .int .i64 y.src.base.k, .int .i64 y.src.base.a, .int .i64 y.src.base.b, .int .i64 y.src.base.c, .int .i64 y.src.base.d, .int .i64 y.src.len, .int .i64 y.dst.base.k, .int .i64 y.dst.base.a, .int .i64 y.dst.base.b, .int .i64 y.dst.base.c, .int .i64 y.dst.base.d, .int .i64 y.dst.len, .int .i64 y.proto, .int .i64 y.slo, .int .i64 y.shi, .int .i64 y.dlo, .int .i64 y.dhi, .int .i64 y.tenant, .int .i64 y.weight, .int .i64 y.chain]) := hf (3, 16) (by decide)
              have e4 : f 4 = (.bool true) := hf (4, 17) (by decide)
              have e5 : f 5 = (.bool false) := hf (5, 18) (by decide)
              have e6 : f 6 = (.bool false) := hf (6, 19) (by decide)
              have e7 : f 7 = (.int .i64 ((0 : Nat) : Int)) := hf (7, 20) (by decide)
              have e8 : f 8 = (.bool false) := hf (8, 21) (by decide)
              have e9 : f 9 = (.bool false) := hf (9, 22) (by decide)
              have e10 : f 10 = undef := hf (10, 23) (by decide)
              have e11 : f 11 = undef := hf (11, 24) (by decide)
              have e12 : f 12 = undef := hf (12, 25) (by decide)
              have e13 : f 13 = undef := hf (13, 26) (by decide)
              have e14 : f 14 = undef := hf (14, 27) (by decide)
              have e15 : f 15 = undef := hf (15, 28) (by decide)
              have e16 : f 16 = undef := hf (16, 29) (by decide)
              have e17 : f 17 = undef := hf (17, 30) (by decide)
              have e18 : f 18 = undef := hf (18, 31) (by decide)
              have e19 : f 19 = undef := hf (19, 32) (by decide)
              have e20 : f 20 = undef := hf (20, 33) (by decide)
              have e21 : f 21 = undef := hf (21, 34) (by decide)
              have e22 : f 22 = (.bool false) := hf (22, 35) (by decide)
              simp only [List.foldl_cons, List.foldl_nil, List.drop_succ_cons, List.drop_zero, e0, e1, e2, e3, e4, e5, e6, e7, e8, e9, e10, e11, e12, e13, e14, e15, e16, e17, e18, e19, e20, e21, e22]
              clear e0 e1 e2 e3 e4 e5 e6 e7 e8 e9 e10 e11 e12 e13 e14 e15 e16 e17 e18 e19 e20 e21 e22 hf
              go_simp
              have B2 := Lib.hid (bthen hb.out hB)
              clear hB
              go_wp2
              go_roundw
              case rel => exact ⟨0 + 1, by omega, by go_num, Lib.hid (by rw [HS.out, hg.out, HOK.out, decide_eq_true (by rw [H0.out]; have := HPR.out; omega)]; rfl), B2⟩
              case measure => simp [intOf]; omega
          | succ m =>
            obtain ⟨l, hl, hd⟩ := HM.out m rfl
            have hd := Lib.hid hd
            rw [hl] at HNo HS
            have hk0 : decide (0 < m + 1) = true := decide_eq_true (by omega)
            obtain ⟨bb, hbb⟩ : ∃ bb, decide (y.prio ≤ l) = bb := ⟨_, rfl⟩
            have hbb := Lib.hid hbb
            clear HM H0 hl
            cases bb with
            | false =>
              go_wp2_with fail
              refine wp_region_guards (by kernel_rfl) 23 37 [(0, 13), (1, 14), (2, 15), (3, 16), (4, 17), (5, 18), (6, 19), (7, 20), (8, 21), (9, 22), (10, 23), (11, 24), (12, 25), (13, 26), (14, 27), (15, 28), (16, 29), (17, 30), (18, 31), (19, 32), (20, 33), (21, 34), (22, 35)] _ ([.val (.slice (some ⟨g, o, none⟩) n c), .val (.int .i64 ((m + 1 : Nat) : Int)), .val (.pointer (some ⟨g, o + ((m + 1)) * 21, none⟩)), .val (.agg #[.int .i64 y.prio, .int .i64 y.src.base.k, .int .i64 y.src.base.a, .int .i64 y.src.base.b, .int .i64 y.src.base.c, .int .i64 y.src.base.d, .int .i64 y.src.len, .int .i64 y.dst.base.k, .int .i64 y.dst.base.a, .int .i64 y.dst.base.b, .int .i64 y.dst.base.c, .int .i64 y.dst.base.d, .int .i64 y.dst.len, .int .i64 y.proto, .int .i64 y.slo, .int .i64 y.shi, .int .i64 y.dlo, .int .i64 y.dhi, .int .i64 y.tenant, .int .i64 y.weight, .int .i64 y.chain]), .bit true, .bit false, .bit false, .val (.int .i64 ((m + 1 : Nat) : Int)), .bit true, .bit true, .val (.slice (some ⟨g, o, none⟩) n c), .val (.int .i64 ((m + 1 : Nat) : Int)), .val (.int .i64 (m : Int)), .val (.pointer (some ⟨g, o + m * 21, none⟩)), .val (.pointer (some ⟨g, o + m * 21, none⟩)), .val (.int .i64 l), .val (.slice (some ⟨g, o, none⟩) n c), .val (.int .i64 ((m + 1 : Nat) : Int)), .val (.pointer (some ⟨g, o + ((m + 1)) * 21, none⟩)), .val (.pointer (some ⟨g, o + ((m + 1)) * 21, none⟩)), .val (.int .i64 y.prio), .val (.bool false), .val (.bool false)]) (by kernel_rfl) (by kernel_rfl) (by kernel_rfl) rfl rfl ?_ ?_
              · intro j o hj ho hr a' v K' hx hnd hB hK
                match j, hj, ho, hr with
                | 0, _, ho, _ =>
                  obtain rfl := Option.some.inj ho
                  have h0 : a'.eval (.tmp 0) = .slice (some ⟨g, o, none⟩) n c := (hx 0 (by decide)).trans rfl
                  exact s_mv _ _ rfl h0 (hK _ _ rfl (Below.refl _ _))
                | 1, _, ho, _ =>
                  obtain rfl := Option.some.inj ho
                  have h0 : a'.eval (.tmp 3) = .int .i64 ((m + 1 : Nat) : Int) := (hx 3 (by decide)).trans rfl
                  exact s_mv _ _ rfl h0 (hK _ _ rfl (Below.refl _ _))
                | 2, _, ho, _ =>
                  obtain rfl := Option.some.inj ho
                  have h0 : a'.eval (.tmp 13) = .slice (some ⟨g, o, none⟩) n c := (gds_of hnd 0 13 (by kernel_rfl) :)
                  have h1 : a'.eval (.tmp 14) = .int .i64 ((m + 1 : Nat) : Int) := (gds_of hnd 1 14 (by kernel_rfl) :)
                  exact s_ix _ _ _ _ _ _ _ rfl h0 h1 hlt (hK _ _ rfl (Below.refl _ _))
                | 3, _, ho, _ =>
                  obtain rfl := Option.some.inj ho
                  have h0 : a'.eval (.tmp 15) = .pointer (some ⟨g, o + ((m + 1)) * 21, none⟩) := (gds_of hnd 2 15 (by kernel_rfl) :)
                  exact s_ld _ _ _ y rfl h0 (hc.out _ hB) (hK _ _ rfl (Below.refl _ _))
                | 4, _, ho, _ =>
                  obtain rfl := Option.some.inj ho
                  have h0 : a'.eval (.tmp 16) = .agg #[.int .i64 y.prio, .int .i64 y.src.base.k, .int .i64 y.src.base.a, .int .i64 y.src.base.b, .int .i64 y.src.base.c, .int .i64 y.src.base.d, .int .i64 y.src.len, .int .i64 y.dst.base.k, .int .i64 y.dst.base.a, .int .i64 y.dst.base.b, .int .i64 y.dst.base.c, .int .i64 y.dst.base.d, .int .i64 y.dst.len, .int .i64 y.proto, .int .i64 y.slo, .int .i64 y.shi, .int .i64 y.dlo, .int .i64 y.dhi, .int .i64 y.tenant, .int .i64 y.weight, .int .i64 y.chain] := (gds_of hnd 3 16 (by kernel_rfl) :)
                  refine u_okRS _ _ _ rfl h0 (Calls.mono (ruleOkSB y true HOK.out _) ?_)
                  rintro e' v' ⟨rfl, b6⟩
                  exact ⟨_, rfl, hK _ _ rfl b6⟩
                | 5, _, ho, _ =>
                  obtain rfl := Option.some.inj ho
                  have h0 : a'.eval (.tmp 17) = .bool true := (gds_of hnd 4 17 (by kernel_rfl) :)
                  exact s_not _ _ true rfl h0 (hK _ _ rfl (Below.refl _ _))
                | 6, _, ho, _ =>
                  obtain rfl := Option.some.inj ho
                  have h0 : a'.eval (.tmp 18) = .bool false := (gds_of hnd 5 18 (by kernel_rfl) :)
                  exact s_mv _ _ rfl h0 (hK _ _ rfl (Below.refl _ _))
                | 7, _, ho, _ =>
                  obtain rfl := Option.some.inj ho
                  have h0 : a'.eval (.tmp 3) = .int .i64 ((m + 1 : Nat) : Int) := (hx 3 (by decide)).trans rfl
                  exact s_mv _ _ rfl h0 (hK _ _ rfl (Below.refl _ _))
                | 8, _, ho, _ =>
                  obtain rfl := Option.some.inj ho
                  have h0 : a'.eval (.tmp 20) = .int .i64 ((m + 1 : Nat) : Int) := (gds_of hnd 7 20 (by kernel_rfl) :)
                  exact s_gt0 _ _ true rfl h0 hk0 (hK _ _ rfl (Below.refl _ _))
                | 9, _, ho, _ =>
                  obtain rfl := Option.some.inj ho
                  have h0 : a'.eval (.tmp 21) = .bool true := (gds_of hnd 8 21 (by kernel_rfl) :)
                  exact s_mv _ _ rfl h0 (hK _ _ rfl (Below.refl _ _))
                | 10, _, ho, _ =>
                  obtain rfl := Option.some.inj ho
                  have h0 : a'.eval (.tmp 0) = .slice (some ⟨g, o, none⟩) n c := (hx 0 (by decide)).trans rfl
                  exact s_mv _ _ rfl h0 (hK _ _ rfl (Below.refl _ _))
                | 11, _, ho, _ =>
                  obtain rfl := Option.some.inj ho
                  have h0 : a'.eval (.tmp 3) = .int .i64 ((m + 1 : Nat) : Int) := (hx 3 (by decide)).trans rfl
                  exact s_mv _ _ rfl h0 (hK _ _ rfl (Below.refl _ _))
                | 12, _, ho, _ =>
                  obtain rfl := Option.some.inj ho
                  have h0 : a'.eval (.tmp 24) = .int .i64 ((m + 1 : Nat) : Int) := (gds_of hnd 11 24 (by kernel_rfl) :)
                  exact s_sub1 _ _ m rfl h0 ⟨rfl, by omega⟩ (hK _ _ rfl (Below.refl _ _))
                | 13, _, ho, _ =>
                  obtain rfl := Option.some.inj ho
                  have h0 : a'.eval (.tmp 23) = .slice (some ⟨g, o, none⟩) n c := (gds_of hnd 10 23 (by kernel_rfl) :)
                  have h1 : a'.eval (.tmp 25) = .int .i64 (m : Int) := (gds_of hnd 12 25 (by kernel_rfl) :)
                  exact s_ix _ _ _ _ _ _ _ rfl h0 h1 (by omega) (hK _ _ rfl (Below.refl _ _))
                | 14, _, ho, _ =>
                  obtain rfl := Option.some.inj ho
                  have h0 : a'.eval (.tmp 26) = .pointer (some ⟨g, o + m * 21, none⟩) := (gds_of hnd 13 26 (by kernel_rfl) :)
                  exact s_f0 _ _ _ rfl h0 (hK _ _ rfl (Below.refl _ _))
                | 15, _, ho, _ =>
                  obtain rfl := Option.some.inj ho
                  have h0 : a'.eval (.tmp 27) = .pointer (some ⟨g, o + m * 21, none⟩) := (gds_of hnd 14 27 (by kernel_rfl) :)
                  exact s_in _ _ _ _ rfl h0 (hd.out _ hB) (hK _ _ rfl (Below.refl _ _))
                | 16, _, ho, _ =>
                  obtain rfl := Option.some.inj ho
                  have h0 : a'.eval (.tmp 0) = .slice (some ⟨g, o, none⟩) n c := (hx 0 (by decide)).trans rfl
                  exact s_mv _ _ rfl h0 (hK _ _ rfl (Below.refl _ _))
                | 17, _, ho, _ =>
                  obtain rfl := Option.some.inj ho
                  have h0 : a'.eval (.tmp 3) = .int .i64 ((m + 1 : Nat) : Int) := (hx 3 (by decide)).trans rfl
                  exact s_mv _ _ rfl h0 (hK _ _ rfl (Below.refl _ _))
                | 18, _, ho, _ =>
                  obtain rfl := Option.some.inj ho
                  have h0 : a'.eval (.tmp 29) = .slice (some ⟨g, o, none⟩) n c := (gds_of hnd 16 29 (by kernel_rfl) :)
                  have h1 : a'.eval (.tmp 30) = .int .i64 ((m + 1 : Nat) : Int) := (gds_of hnd 17 30 (by kernel_rfl) :)
                  exact s_ix _ _ _ _ _ _ _ rfl h0 h1 hlt (hK _ _ rfl (Below.refl _ _))
                | 19, _, ho, _ =>
                  obtain rfl := Option.some.inj ho
                  have h0 : a'.eval (.tmp 31) = .pointer (some ⟨g, o + ((m + 1)) * 21, none⟩) := (gds_of hnd 18 31 (by kernel_rfl) :)
                  exact s_f0 _ _ _ rfl h0 (hK _ _ rfl (Below.refl _ _))
                | 20, _, ho, _ =>
                  obtain rfl := Option.some.inj ho
                  have h0 : a'.eval (.tmp 32) = .pointer (some ⟨g, o + ((m + 1)) * 21, none⟩) := (gds_of hnd 19 32 (by kernel_rfl) :)
                  exact s_in _ _ _ _ rfl h0 (hc.out _ hB 0 _ rfl) (hK _ _ rfl (Below.refl _ _))
                | 21, _, ho, _ =>
                  obtain rfl := Option.some.inj ho
                  have h0 : a'.eval (.tmp 28) = .int .i64 l := (gds_of hnd 15 28 (by kernel_rfl) :)
                  have h1 : a'.eval (.tmp 33) = .int .i64 y.prio := (gds_of hnd 20 33 (by kernel_rfl) :)
                  exact s_ge _ _ _ _ false rfl h0 h1 hbb.out (hK _ _ rfl (Below.refl _ _))
                | 22, _, ho, _ =>
                  obtain rfl := Option.some.inj ho
                  have h0 : a'.eval (.tmp 22) = .bool true := (gds_of hnd 9 22 (by kernel_rfl) :)
                  have h1 : a'.eval (.tmp 34) = .bool false := (gds_of hnd 21 34 (by kernel_rfl) :)
                  exact s_pk _ _ _ true _ rfl h0 h1 (hK _ _ rfl (Below.refl _ _))
                | j + 23, hj, _, _ => omega
              · intro f v hf hB
                have e0 : f 0 = (.slice (some ⟨g, o, none⟩) n c) := hf (0, 13) (by decide)
                have e1 : f 1 = (.int .i64 ((m + 1 : Nat) : Int)) := hf (1, 14) (by decide)
                have e2 : f 2 = (.pointer (some ⟨g, o + ((m + 1)) * 21, none⟩)) := hf (2, 15) (by decide)
                have e3 : f 3 = (.agg #[.int .i64 y.prio, .int .i64 y.src.base.k, .int .i64 y.src.base.a, .int .i64 y.src.base.b, .int .i64 y.src.base.c, .int .i64 y.src.base.d, .int .i64 y.src.len, .int .i64 y.dst.base.k, .int .i64 y.dst.base.a, .int .i64 y.dst.base.b, .int .i64 y.dst.base.c, .int .i64 y.dst.base.d, .int .i64 y.dst.len, .int .i64 y.proto, .int .i64 y.slo, .int .i64 y.shi, .int .i64 y.dlo, .int .i64 y.dhi, .int .i64 y.tenant, .int .i64 y.weight, .int .i64 y.chain]) := hf (3, 16) (by decide)
                have e4 : f 4 = (.bool true) := hf (4, 17) (by decide)
                have e5 : f 5 = (.bool false) := hf (5, 18) (by decide)
                have e6 : f 6 = (.bool false) := hf (6, 19) (by decide)
                have e7 : f 7 = (.int .i64 ((m + 1 : Nat) : Int)) := hf (7, 20) (by decide)
                have e8 : f 8 = (.bool true) := hf (8, 21) (by decide)
                have e9 : f 9 = (.bool true) := hf (9, 22) (by decide)
                have e10 : f 10 = (.slice (some ⟨g, o, none⟩) n c) := hf (10, 23) (by decide)
                have e11 : f 11 = (.int .i64 ((m + 1 : Nat) : Int)) := hf (11, 24) (by decide)
                have e12 : f 12 = (.int .i64 (m : Int)) := hf (12, 25) (by decide)
                have e13 : f 13 = (.pointer (some ⟨g, o + m * 21, none⟩)) := hf (13, 26) (by decide)
                have e14 : f 14 = (.pointer (some ⟨g, o + m * 21, none⟩)) := hf (14, 27) (by decide)
                have e15 : f 15 = (.int .i64 l) := hf (15, 28) (by decide)
                have e16 : f 16 = (.slice (some ⟨g, o, none⟩) n c) := hf (16, 29) (by decide)
                have e17 : f 17 = (.int .i64 ((m + 1 : Nat) : Int)) := hf (17, 30) (by decide)
                have e18 : f 18 = (.pointer (some ⟨g, o + ((m + 1)) * 21, none⟩)) := hf (18, 31) (by decide)
                have e19 : f 19 = (.pointer (some ⟨g, o + ((m + 1)) * 21, none⟩)) := hf (19, 32) (by decide)
                have e20 : f 20 = (.int .i64 y.prio) := hf (20, 33) (by decide)
                have e21 : f 21 = (.bool false) := hf (21, 34) (by decide)
                have e22 : f 22 = (.bool false) := hf (22, 35) (by decide)
                simp only [List.foldl_cons, List.foldl_nil, List.drop_succ_cons, List.drop_zero, e0, e1, e2, e3, e4, e5, e6, e7, e8, e9, e10, e11, e12, e13, e14, e15, e16, e17, e18, e19, e20, e21, e22]
                clear e0 e1 e2 e3 e4 e5 e6 e7 e8 e9 e10 e11 e12 e13 e14 e15 e16 e17 e18 e19 e20 e21 e22 hf
                go_simp
                have B2 := Lib.hid (bthen hb.out hB)
                clear hB
                go_wp2
                go_roundw
                case rel => exact ⟨m + 1 + 1, by omega, by go_num, Lib.hid (by rw [HS.out, hg.out, HOK.out, decide_eq_true (by have := of_decide_eq_false hbb.out; omega)]; rfl), B2⟩
                case measure => simp [intOf]; omega
            | true =>
              go_wp2_with fail
              refine wp_region_guards (by kernel_rfl) 23 37 [(0, 13), (1, 14), (2, 15), (3, 16), (4, 17), (5, 18), (6, 19), (7, 20), (8, 21), (9, 22), (10, 23), (11, 24), (12, 25), (13, 26), (14, 27), (15, 28), (16, 29), (17, 30), (18, 31), (19, 32), (20, 33), (21, 34), (22, 35)] _ ([.val (.slice (some ⟨g, o, none⟩) n c), .val (.int .i64 ((m + 1 : Nat) : Int)), .val (.pointer (some ⟨g, o + ((m + 1)) * 21, none⟩)), .val (.agg #[.int .i64 y.prio, .int .i64 y.src.base.k, .int .i64 y.src.base.a, .int .i64 y.src.base.b, .int .i64 y.src.base.c, .int .i64 y.src.base.d, .int .i64 y.src.len, .int .i64 y.dst.base.k, .int .i64 y.dst.base.a, .int .i64 y.dst.base.b, .int .i64 y.dst.base.c, .int .i64 y.dst.base.d, .int .i64 y.dst.len, .int .i64 y.proto, .int .i64 y.slo, .int .i64 y.shi, .int .i64 y.dlo, .int .i64 y.dhi, .int .i64 y.tenant, .int .i64 y.weight, .int .i64 y.chain]), .bit true, .bit false, .bit false, .val (.int .i64 ((m + 1 : Nat) : Int)), .bit true, .bit true, .val (.slice (some ⟨g, o, none⟩) n c), .val (.int .i64 ((m + 1 : Nat) : Int)), .val (.int .i64 (m : Int)), .val (.pointer (some ⟨g, o + m * 21, none⟩)), .val (.pointer (some ⟨g, o + m * 21, none⟩)), .val (.int .i64 l), .val (.slice (some ⟨g, o, none⟩) n c), .val (.int .i64 ((m + 1 : Nat) : Int)), .val (.pointer (some ⟨g, o + ((m + 1)) * 21, none⟩)), .val (.pointer (some ⟨g, o + ((m + 1)) * 21, none⟩)), .val (.int .i64 y.prio), .val (.bool true), .val (.bool true)]) (by kernel_rfl) (by kernel_rfl) (by kernel_rfl) rfl rfl ?_ ?_
              · intro j o hj ho hr a' v K' hx hnd hB hK
                match j, hj, ho, hr with
                | 0, _, ho, _ =>
                  obtain rfl := Option.some.inj ho
                  have h0 : a'.eval (.tmp 0) = .slice (some ⟨g, o, none⟩) n c := (hx 0 (by decide)).trans rfl
                  exact s_mv _ _ rfl h0 (hK _ _ rfl (Below.refl _ _))
                | 1, _, ho, _ =>
                  obtain rfl := Option.some.inj ho
                  have h0 : a'.eval (.tmp 3) = .int .i64 ((m + 1 : Nat) : Int) := (hx 3 (by decide)).trans rfl
                  exact s_mv _ _ rfl h0 (hK _ _ rfl (Below.refl _ _))
                | 2, _, ho, _ =>
                  obtain rfl := Option.some.inj ho
                  have h0 : a'.eval (.tmp 13) = .slice (some ⟨g, o, none⟩) n c := (gds_of hnd 0 13 (by kernel_rfl) :)
                  have h1 : a'.eval (.tmp 14) = .int .i64 ((m + 1 : Nat) : Int) := (gds_of hnd 1 14 (by kernel_rfl) :)
                  exact s_ix _ _ _ _ _ _ _ rfl h0 h1 hlt (hK _ _ rfl (Below.refl _ _))
                | 3, _, ho, _ =>
                  obtain rfl := Option.some.inj ho
                  have h0 : a'.eval (.tmp 15) = .pointer (some ⟨g, o + ((m + 1)) * 21, none⟩) := (gds_of hnd 2 15 (by kernel_rfl) :)
                  exact s_ld _ _ _ y rfl h0 (hc.out _ hB) (hK _ _ rfl (Below.refl _ _))
                | 4, _, ho, _ =>
                  obtain rfl := Option.some.inj ho
                  have h0 : a'.eval (.tmp 16) = .agg #[.int .i64 y.prio, .int .i64 y.src.base.k, .int .i64 y.src.base.a, .int .i64 y.src.base.b, .int .i64 y.src.base.c, .int .i64 y.src.base.d, .int .i64 y.src.len, .int .i64 y.dst.base.k, .int .i64 y.dst.base.a, .int .i64 y.dst.base.b, .int .i64 y.dst.base.c, .int .i64 y.dst.base.d, .int .i64 y.dst.len, .int .i64 y.proto, .int .i64 y.slo, .int .i64 y.shi, .int .i64 y.dlo, .int .i64 y.dhi, .int .i64 y.tenant, .int .i64 y.weight, .int .i64 y.chain] := (gds_of hnd 3 16 (by kernel_rfl) :)
                  refine u_okRS _ _ _ rfl h0 (Calls.mono (ruleOkSB y true HOK.out _) ?_)
                  rintro e' v' ⟨rfl, b6⟩
                  exact ⟨_, rfl, hK _ _ rfl b6⟩
                | 5, _, ho, _ =>
                  obtain rfl := Option.some.inj ho
                  have h0 : a'.eval (.tmp 17) = .bool true := (gds_of hnd 4 17 (by kernel_rfl) :)
                  exact s_not _ _ true rfl h0 (hK _ _ rfl (Below.refl _ _))
                | 6, _, ho, _ =>
                  obtain rfl := Option.some.inj ho
                  have h0 : a'.eval (.tmp 18) = .bool false := (gds_of hnd 5 18 (by kernel_rfl) :)
                  exact s_mv _ _ rfl h0 (hK _ _ rfl (Below.refl _ _))
                | 7, _, ho, _ =>
                  obtain rfl := Option.some.inj ho
                  have h0 : a'.eval (.tmp 3) = .int .i64 ((m + 1 : Nat) : Int) := (hx 3 (by decide)).trans rfl
                  exact s_mv _ _ rfl h0 (hK _ _ rfl (Below.refl _ _))
                | 8, _, ho, _ =>
                  obtain rfl := Option.some.inj ho
                  have h0 : a'.eval (.tmp 20) = .int .i64 ((m + 1 : Nat) : Int) := (gds_of hnd 7 20 (by kernel_rfl) :)
                  exact s_gt0 _ _ true rfl h0 hk0 (hK _ _ rfl (Below.refl _ _))
                | 9, _, ho, _ =>
                  obtain rfl := Option.some.inj ho
                  have h0 : a'.eval (.tmp 21) = .bool true := (gds_of hnd 8 21 (by kernel_rfl) :)
                  exact s_mv _ _ rfl h0 (hK _ _ rfl (Below.refl _ _))
                | 10, _, ho, _ =>
                  obtain rfl := Option.some.inj ho
                  have h0 : a'.eval (.tmp 0) = .slice (some ⟨g, o, none⟩) n c := (hx 0 (by decide)).trans rfl
                  exact s_mv _ _ rfl h0 (hK _ _ rfl (Below.refl _ _))
                | 11, _, ho, _ =>
                  obtain rfl := Option.some.inj ho
                  have h0 : a'.eval (.tmp 3) = .int .i64 ((m + 1 : Nat) : Int) := (hx 3 (by decide)).trans rfl
                  exact s_mv _ _ rfl h0 (hK _ _ rfl (Below.refl _ _))
                | 12, _, ho, _ =>
                  obtain rfl := Option.some.inj ho
                  have h0 : a'.eval (.tmp 24) = .int .i64 ((m + 1 : Nat) : Int) := (gds_of hnd 11 24 (by kernel_rfl) :)
                  exact s_sub1 _ _ m rfl h0 ⟨rfl, by omega⟩ (hK _ _ rfl (Below.refl _ _))
                | 13, _, ho, _ =>
                  obtain rfl := Option.some.inj ho
                  have h0 : a'.eval (.tmp 23) = .slice (some ⟨g, o, none⟩) n c := (gds_of hnd 10 23 (by kernel_rfl) :)
                  have h1 : a'.eval (.tmp 25) = .int .i64 (m : Int) := (gds_of hnd 12 25 (by kernel_rfl) :)
                  exact s_ix _ _ _ _ _ _ _ rfl h0 h1 (by omega) (hK _ _ rfl (Below.refl _ _))
                | 14, _, ho, _ =>
                  obtain rfl := Option.some.inj ho
                  have h0 : a'.eval (.tmp 26) = .pointer (some ⟨g, o + m * 21, none⟩) := (gds_of hnd 13 26 (by kernel_rfl) :)
                  exact s_f0 _ _ _ rfl h0 (hK _ _ rfl (Below.refl _ _))
                | 15, _, ho, _ =>
                  obtain rfl := Option.some.inj ho
                  have h0 : a'.eval (.tmp 27) = .pointer (some ⟨g, o + m * 21, none⟩) := (gds_of hnd 14 27 (by kernel_rfl) :)
                  exact s_in _ _ _ _ rfl h0 (hd.out _ hB) (hK _ _ rfl (Below.refl _ _))
                | 16, _, ho, _ =>
                  obtain rfl := Option.some.inj ho
                  have h0 : a'.eval (.tmp 0) = .slice (some ⟨g, o, none⟩) n c := (hx 0 (by decide)).trans rfl
                  exact s_mv _ _ rfl h0 (hK _ _ rfl (Below.refl _ _))
                | 17, _, ho, _ =>
                  obtain rfl := Option.some.inj ho
                  have h0 : a'.eval (.tmp 3) = .int .i64 ((m + 1 : Nat) : Int) := (hx 3 (by decide)).trans rfl
                  exact s_mv _ _ rfl h0 (hK _ _ rfl (Below.refl _ _))
                | 18, _, ho, _ =>
                  obtain rfl := Option.some.inj ho
                  have h0 : a'.eval (.tmp 29) = .slice (some ⟨g, o, none⟩) n c := (gds_of hnd 16 29 (by kernel_rfl) :)
                  have h1 : a'.eval (.tmp 30) = .int .i64 ((m + 1 : Nat) : Int) := (gds_of hnd 17 30 (by kernel_rfl) :)
                  exact s_ix _ _ _ _ _ _ _ rfl h0 h1 hlt (hK _ _ rfl (Below.refl _ _))
                | 19, _, ho, _ =>
                  obtain rfl := Option.some.inj ho
                  have h0 : a'.eval (.tmp 31) = .pointer (some ⟨g, o + ((m + 1)) * 21, none⟩) := (gds_of hnd 18 31 (by kernel_rfl) :)
                  exact s_f0 _ _ _ rfl h0 (hK _ _ rfl (Below.refl _ _))
                | 20, _, ho, _ =>
                  obtain rfl := Option.some.inj ho
                  have h0 : a'.eval (.tmp 32) = .pointer (some ⟨g, o + ((m + 1)) * 21, none⟩) := (gds_of hnd 19 32 (by kernel_rfl) :)
                  exact s_in _ _ _ _ rfl h0 (hc.out _ hB 0 _ rfl) (hK _ _ rfl (Below.refl _ _))
                | 21, _, ho, _ =>
                  obtain rfl := Option.some.inj ho
                  have h0 : a'.eval (.tmp 28) = .int .i64 l := (gds_of hnd 15 28 (by kernel_rfl) :)
                  have h1 : a'.eval (.tmp 33) = .int .i64 y.prio := (gds_of hnd 20 33 (by kernel_rfl) :)
                  exact s_ge _ _ _ _ true rfl h0 h1 hbb.out (hK _ _ rfl (Below.refl _ _))
                | 22, _, ho, _ =>
                  obtain rfl := Option.some.inj ho
                  have h0 : a'.eval (.tmp 22) = .bool true := (gds_of hnd 9 22 (by kernel_rfl) :)
                  have h1 : a'.eval (.tmp 34) = .bool true := (gds_of hnd 21 34 (by kernel_rfl) :)
                  exact s_pk _ _ _ true _ rfl h0 h1 (hK _ _ rfl (Below.refl _ _))
                | j + 23, hj, _, _ => omega
              · intro f v hf hB
                have e0 : f 0 = (.slice (some ⟨g, o, none⟩) n c) := hf (0, 13) (by decide)
                have e1 : f 1 = (.int .i64 ((m + 1 : Nat) : Int)) := hf (1, 14) (by decide)
                have e2 : f 2 = (.pointer (some ⟨g, o + ((m + 1)) * 21, none⟩)) := hf (2, 15) (by decide)
                have e3 : f 3 = (.agg #[.int .i64 y.prio, .int .i64 y.src.base.k, .int .i64 y.src.base.a, .int .i64 y.src.base.b, .int .i64 y.src.base.c, .int .i64 y.src.base.d, .int .i64 y.src.len, .int .i64 y.dst.base.k, .int .i64 y.dst.base.a, .int .i64 y.dst.base.b, .int .i64 y.dst.base.c, .int .i64 y.dst.base.d, .int .i64 y.dst.len, .int .i64 y.proto, .int .i64 y.slo, .int .i64 y.shi, .int .i64 y.dlo, .int .i64 y.dhi, .int .i64 y.tenant, .int .i64 y.weight, .int .i64 y.chain]) := hf (3, 16) (by decide)
                have e4 : f 4 = (.bool true) := hf (4, 17) (by decide)
                have e5 : f 5 = (.bool false) := hf (5, 18) (by decide)
                have e6 : f 6 = (.bool false) := hf (6, 19) (by decide)
                have e7 : f 7 = (.int .i64 ((m + 1 : Nat) : Int)) := hf (7, 20) (by decide)
                have e8 : f 8 = (.bool true) := hf (8, 21) (by decide)
                have e9 : f 9 = (.bool true) := hf (9, 22) (by decide)
                have e10 : f 10 = (.slice (some ⟨g, o, none⟩) n c) := hf (10, 23) (by decide)
                have e11 : f 11 = (.int .i64 ((m + 1 : Nat) : Int)) := hf (11, 24) (by decide)
                have e12 : f 12 = (.int .i64 (m : Int)) := hf (12, 25) (by decide)
                have e13 : f 13 = (.pointer (some ⟨g, o + m * 21, none⟩)) := hf (13, 26) (by decide)
                have e14 : f 14 = (.pointer (some ⟨g, o + m * 21, none⟩)) := hf (14, 27) (by decide)
                have e15 : f 15 = (.int .i64 l) := hf (15, 28) (by decide)
                have e16 : f 16 = (.slice (some ⟨g, o, none⟩) n c) := hf (16, 29) (by decide)
                have e17 : f 17 = (.int .i64 ((m + 1 : Nat) : Int)) := hf (17, 30) (by decide)
                have e18 : f 18 = (.pointer (some ⟨g, o + ((m + 1)) * 21, none⟩)) := hf (18, 31) (by decide)
                have e19 : f 19 = (.pointer (some ⟨g, o + ((m + 1)) * 21, none⟩)) := hf (19, 32) (by decide)
                have e20 : f 20 = (.int .i64 y.prio) := hf (20, 33) (by decide)
                have e21 : f 21 = (.bool true) := hf (21, 34) (by decide)
                have e22 : f 22 = (.bool true) := hf (22, 35) (by decide)
                simp only [List.foldl_cons, List.foldl_nil, List.drop_succ_cons, List.drop_zero, e0, e1, e2, e3, e4, e5, e6, e7, e8, e9, e10, e11, e12, e13, e14, e15, e16, e17, e18, e19, e20, e21, e22]
                clear e0 e1 e2 e3 e4 e5 e6 e7 e8 e9 e10 e11 e12 e13 e14 e15 e16 e17 e18 e19 e20 e21 e22 hf
                go_simp
                have B2 := Lib.hid (bthen hb.out hB)
                clear hB
                go_wp2
                first | go_ret | go_ret3
                exact ⟨ret_bool (HNo.out (by rw [HOK.out, decide_eq_false (by have := of_decide_eq_true hbb.out; omega)]; rfl)).symm, B2.out⟩
      · obtain rfl : k = n := by omega
        have HE := Lib.hid (rulesOk_all (rs := rs) (by rw [HL.out]; omega) (by rw [HL.out]; exact hg.out))
        go_wp2
        go_ret
        exact ⟨ret_bool HE.out.symm, hb.out⟩
end Go.Proofs.Ythfmjnebpdhdfaa
