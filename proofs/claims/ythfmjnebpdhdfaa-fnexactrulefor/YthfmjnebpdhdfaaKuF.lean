/-
  RuleFor in the model. RuleFor in the program. A list of rules that came in: what the walk is told of it, out of its reading. A stream key that came in: what the walk is told of it, out of its reading.
-/
import Derived.Test.YthfmjnebpdhdfaaRulesS
import Derived.Test.YthfmjnebpdhdfaaRuHasS
import Derived.Test.YthfmjnebpdhdfaaRulesI
import Derived.Test.YthfmjnebpdhdfaaRuHasI
import Derived.Test.YthfmjnebpdhdfaaRuList
import Derived.Test.YthfmjnebpdhdfaaInRule
import Derived.Test.YthfmjnebpdhdfaaKeyLib
import Derived.Test.YthfmjnebpdhdfaaInAddr
namespace Go.Proofs.Ythfmjnebpdhdfaa
set_option maxRecDepth 100000
open Go.RowKit


section
variable {o : Oper} {a : Act} {w : World} {K : Act → World → Prop} {Q : Exit → Act → World → Prop}
theorem f_key (x : Operand) (g : Nat) (r : Ky) (ho : o.op = .load 40 x) (hx : a.eval x = .pointer (some ⟨g, 0, none⟩)) {t : TypeId} (hg : w.heap[g]? = some (.cells #[.int .i64 r.src.k, .int .i64 r.src.a, .int .i64 r.src.b, .int .i64 r.src.c, .int .i64 r.src.d, .int .i64 r.dst.k, .int .i64 r.dst.a, .int .i64 r.dst.b, .int .i64 r.dst.c, .int .i64 r.dst.d, .int .i64 r.proto, .int .i64 r.sport, .int .i64 r.dport] t (0, 0))) (hK : K (a.put o.dst (.agg #[.int .i64 r.src.k, .int .i64 r.src.a, .int .i64 r.src.b, .int .i64 r.src.c, .int .i64 r.src.d, .int .i64 r.dst.k, .int .i64 r.dst.a, .int .i64 r.dst.b, .int .i64 r.dst.c, .int .i64 r.dst.d, .int .i64 r.proto, .int .i64 r.sport, .int .i64 r.dport])) w) : o.wp Try.prog a w K Q :=
  wp_load_row 40 x ho g hx t _ (0, 0) _ hg Try.underlying40 rfl info_key hK
end

set_option maxHeartbeats 2000000 in
theorem ruleForS (A : Option Addr) (n c : Nat) (rs : List Ru) (ky : Ky) (w : World) (hx : RV w w.heap.size A (rcells rs)) (hl : rs.length = n) (hn : n ≤ 1048576) :
    Calls Try.prog 33 #[.slice A n c, .agg #[.int .i64 ky.src.k, .int .i64 ky.src.a, .int .i64 ky.src.b, .int .i64 ky.src.c, .int .i64 ky.src.d, .int .i64 ky.dst.k, .int .i64 ky.dst.a, .int .i64 ky.dst.b, .int .i64 ky.dst.c, .int .i64 ky.dst.d, .int .i64 ky.proto, .int .i64 ky.sport, .int .i64 ky.dport]] w fun e w' => e = .returned (.int .i64 (ruleFor rs ky)) ∧ Below w.heap.size w w' := by
  have q0 := Lib.hid (K.new w (.cells #[.int .i64 ky.src.k, .int .i64 ky.src.a, .int .i64 ky.src.b, .int .i64 ky.src.c, .int .i64 ky.src.d, .int .i64 ky.dst.k, .int .i64 ky.dst.a, .int .i64 ky.dst.b, .int .i64 ky.dst.c, .int .i64 ky.dst.d, .int .i64 ky.proto, .int .i64 ky.sport, .int .i64 ky.dport] 40))
  have HX := Lib.hid hx
  have HL := Lib.hid hl
  clear hx hl
  cases hr : rulesOk rs with
  | false =>
    have HR := Lib.hid (ruleFor_no (k := ky) hr)
    have HQ := Lib.hid hr
    clear hr
    go_enter Try.func33, Try.ntmps33
    go_wp2_with fail
    refine Calls.mono (rulesOkS A n c rs _ (HX.out.on (Joins.below_alloc1 w _)) HL.out hn) ?_
    rintro e w1 ⟨rfl, b1⟩
    rw [HQ.out]
    have B1 := Lib.hid (bthen (Joins.below_alloc1 w _) b1)
    clear b1
    go_wp2
    go_ret
    exact ⟨ret_int HR.out.symm, B1.out⟩
  | true =>
    have HQ := Lib.hid hr
    have HR := Lib.hid (ruleFor_yes (k := ky) hr)
    have h32 := rulesOk_len hr
    clear hr
    go_enter Try.func33, Try.ntmps33
    go_wp2_with fail
    refine Calls.mono (rulesOkS A n c rs _ (HX.out.on (Joins.below_alloc1 w _)) HL.out hn) ?_
    rintro e w1 ⟨rfl, b1⟩
    rw [HQ.out]
    have B1 := Lib.hid (bthen (Joins.below_alloc1 w _) b1)
    have q1 := Lib.hid (K.below b1 q0.out)
    clear b1
    have X2 := Lib.hid (HX.out.on B1.out)
    go_wp2
    go_loopw [5] (fun i wr => ∃ k : Nat, k ≤ n ∧ i = .int .i64 k ∧ Hid (ruleFor rs ky = firstHas ky k (rs.drop k)) ∧ Hid (Below w1.heap.size w1 wr)) (fun i _ => n - (intOf i).toNat)
    case atStart => exact ⟨0, Nat.zero_le _, rfl, HR, Lib.hid (Below.refl _ _)⟩
    case round =>
      obtain ⟨k, hk, rfl, hf0, hb⟩ := hrel
      have hq := Lib.hid (K.below hb.out q1.out)
      have hbw := Lib.hid (bthen B1.out hb.out)
      by_cases hlt : k < n
      · have hk1 : k < rs.length := by rw [HL.out]; exact hlt
        obtain ⟨g, o, rfl, hgl, hc0⟩ := X2.out.rule hk1
        have hc := Lib.hid (fun (v : World) (hv : Below wr.heap.size wr v) => (show v.rangeAt g (o + k * 21) rs[k].cells from fun j u hu => ((bthen hb.out hv).cell (p := ⟨g, o + k * 21 + j, none⟩) hgl).trans (hc0 j u hu)))
        have HD := Lib.hid (firstHas_drop (k := ky) hk1)
        have HOK := Lib.hid (rulesOk_at HQ.out hk1).1
        clear hc0 hgl
        generalize rs[k] = y at *
        cases hh : y.has ky with
        | false =>
          have HH := Lib.hid hh
          clear hh
          go_wp2_with fail
          refine wp_region_guards (by kernel_rfl) 5 22 [(0, 15), (1, 16), (2, 17), (3, 18), (4, 19)] _ ([.val (.slice (some ⟨g, o, none⟩) n c), .val (.int .i64 (k : Int)), .val (.pointer (some ⟨g, o + k * 21, none⟩)), .val (.agg #[.int .i64 y.prio, .int .i64 y.src.base.k, .int .i64 y.src.base.a, .int .i64 y.src.base.b, .int .i64 y.src.base.c, .int .i64 y.src.base.d, .int .i64 y.src.len, .int .i64 y.dst.base.k, .int .i64 y.dst.base.a, .int .i64 y.dst.base.b, .int .i64 y.dst.base.c, .int .i64 y.dst.base.d, .int .i64 y.dst.len, .int .i64 y.proto, .int .i64 y.slo, .int .i64 y.shi, .int .i64 y.dlo, .int .i64 y.dhi, .int .i64 y.tenant, .int .i64 y.weight, .int .i64 y.chain]), .val (.agg #[.int .i64 ky.src.k, .int .i64 ky.src.a, .int .i64 ky.src.b, .int .i64 ky.src.c, .int .i64 ky.src.d, .int .i64 ky.dst.k, .int .i64 ky.dst.a, .int .i64 ky.dst.b, .int .i64 ky.dst.c, .int .i64 ky.dst.d, .int .i64 ky.proto, .int .i64 ky.sport, .int .i64 ky.dport])]) (by kernel_rfl) (by kernel_rfl) (by kernel_rfl) rfl rfl ?_ ?_
          · intro j o hj ho hr a' v K' hx hnd hB hK
            match j, hj, ho, hr with
            | 0, _, ho, _ =>
              obtain rfl := Option.some.inj ho
              have h0 : a'.eval (.tmp 0) = .slice (some ⟨g, o, none⟩) n c := (hx 0 (by decide)).trans rfl
              exact s_mv _ _ rfl h0 (hK _ _ rfl (Below.refl _ _))
            | 1, _, ho, _ =>
              obtain rfl := Option.some.inj ho
              have h0 : a'.eval (.tmp 5) = .int .i64 (k : Int) := (hx 5 (by decide)).trans rfl
              exact s_mv _ _ rfl h0 (hK _ _ rfl (Below.refl _ _))
            | 2, _, ho, _ =>
              obtain rfl := Option.some.inj ho
              have h0 : a'.eval (.tmp 15) = .slice (some ⟨g, o, none⟩) n c := (gds_of hnd 0 15 (by kernel_rfl) :)
              have h1 : a'.eval (.tmp 16) = .int .i64 (k : Int) := (gds_of hnd 1 16 (by kernel_rfl) :)
              exact s_ix _ _ _ _ _ _ _ rfl h0 h1 hlt (hK _ _ rfl (Below.refl _ _))
            | 3, _, ho, _ =>
              obtain rfl := Option.some.inj ho
              have h0 : a'.eval (.tmp 17) = .pointer (some ⟨g, o + k * 21, none⟩) := (gds_of hnd 2 17 (by kernel_rfl) :)
              exact s_ld _ _ _ y rfl h0 (hc.out _ hB) (hK _ _ rfl (Below.refl _ _))
            | 4, _, ho, _ =>
              obtain rfl := Option.some.inj ho
              have h0 : a'.eval (.tmp 3) = .pointer (some ⟨w.heap.size, 0, none⟩) := (hx 3 (by decide)).trans rfl
              exact f_key _ _ ky rfl h0 (K.below hB hq.out) (hK _ _ rfl (Below.refl _ _))
            | j + 5, hj, _, _ => omega
          · intro f v hf hB
            have e0 : f 0 = (.slice (some ⟨g, o, none⟩) n c) := hf (0, 15) (by decide)
            have e1 : f 1 = (.int .i64 (k : Int)) := hf (1, 16) (by decide)
            have e2 : f 2 = (.pointer (some ⟨g, o + k * 21, none⟩)) := hf (2, 17) (by decide)
            have e3 : f 3 = (.agg #[.int .i64 y.prio, .int .i64 y.src.base.k, .int .i64 y.src.base.a, .int .i64 y.src.base.b, .int .i64 y.src.base.c, .int .i64 y.src.base.d, .int .i64 y.src.len, .int .i64 y.dst.base.k, .int .i64 y.dst.base.a, .int .i64 y.dst.base.b, .int .i64 y.dst.base.c, .int .i64 y.dst.base.d, .int .i64 y.dst.len, .int .i64 y.proto, .int .i64 y.slo, .int .i64 y.shi, .int .i64 y.dlo, .int .i64 y.dhi, .int .i64 y.tenant, .int .i64 y.weight, .int .i64 y.chain]) := hf (3, 18) (by decide)
            have e4 : f 4 = (.agg #[.int .i64 ky.src.k, .int .i64 ky.src.a, .int .i64 ky.src.b, .int .i64 ky.src.c, .int .i64 ky.src.d, .int .i64 ky.dst.k, .int .i64 ky.dst.a, .int .i64 ky.dst.b, .int .i64 ky.dst.c, .int .i64 ky.dst.d, .int .i64 ky.proto, .int .i64 ky.sport, .int .i64 ky.dport]) := hf (4, 19) (by decide)
            simp only [List.foldl_cons, List.foldl_nil, List.drop_succ_cons, List.drop_zero, e0, e1, e2, e3, e4]
            clear e0 e1 e2 e3 e4 hf
            go_simp
            go_wp2_with fail
            refine Calls.mono (ruleHasSB y ky false HH.out _) ?_
            rintro e w3 ⟨rfl, b3⟩
            have B3 := Lib.hid (bthen (bthen hbw.out hB) b3)
            have B4 := Lib.hid (bthen (bthen hb.out hB) b3)
            clear hB b3
            go_wp2
            go_roundw
            case rel => exact ⟨k + 1, by omega, by go_num, Lib.hid (by rw [hf0.out, HD.out, HH.out]; rfl), B4⟩
            case measure => simp [intOf]; omega
        | true =>
          have HH := Lib.hid hh
          clear hh
          go_wp2_with fail
          refine wp_region_guards (by kernel_rfl) 5 22 [(0, 15), (1, 16), (2, 17), (3, 18), (4, 19)] _ ([.val (.slice (some ⟨g, o, none⟩) n c), .val (.int .i64 (k : Int)), .val (.pointer (some ⟨g, o + k * 21, none⟩)), .val (.agg #[.int .i64 y.prio, .int .i64 y.src.base.k, .int .i64 y.src.base.a, .int .i64 y.src.base.b, .int .i64 y.src.base.c, .int .i64 y.src.base.d, .int .i64 y.src.len, .int .i64 y.dst.base.k, .int .i64 y.dst.base.a, .int .i64 y.dst.base.b, .int .i64 y.dst.base.c, .int .i64 y.dst.base.d, .int .i64 y.dst.len, .int .i64 y.proto, .int .i64 y.slo, .int .i64 y.shi, .int .i64 y.dlo, .int .i64 y.dhi, .int .i64 y.tenant, .int .i64 y.weight, .int .i64 y.chain]), .val (.agg #[.int .i64 ky.src.k, .int .i64 ky.src.a, .int .i64 ky.src.b, .int .i64 ky.src.c, .int .i64 ky.src.d, .int .i64 ky.dst.k, .int .i64 ky.dst.a, .int .i64 ky.dst.b, .int .i64 ky.dst.c, .int .i64 ky.dst.d, .int .i64 ky.proto, .int .i64 ky.sport, .int .i64 ky.dport])]) (by kernel_rfl) (by kernel_rfl) (by kernel_rfl) rfl rfl ?_ ?_
          · intro j o hj ho hr a' v K' hx hnd hB hK
            match j, hj, ho, hr with
            | 0, _, ho, _ =>
              obtain rfl := Option.some.inj ho
              have h0 : a'.eval (.tmp 0) = .slice (some ⟨g, o, none⟩) n c := (hx 0 (by decide)).trans rfl
              exact s_mv _ _ rfl h0 (hK _ _ rfl (Below.refl _ _))
            | 1, _, ho, _ =>
              obtain rfl := Option.some.inj ho
              have h0 : a'.eval (.tmp 5) = .int .i64 (k : Int) := (hx 5 (by decide)).trans rfl
              exact s_mv _ _ rfl h0 (hK _ _ rfl (Below.refl _ _))
            | 2, _, ho, _ =>
              obtain rfl := Option.some.inj ho
              have h0 : a'.eval (.tmp 15) = .slice (some ⟨g, o, none⟩) n c := (gds_of hnd 0 15 (by kernel_rfl) :)
              have h1 : a'.eval (.tmp 16) = .int .i64 (k : Int) := (gds_of hnd 1 16 (by kernel_rfl) :)
              exact s_ix _ _ _ _ _ _ _ rfl h0 h1 hlt (hK _ _ rfl (Below.refl _ _))
            | 3, _, ho, _ =>
              obtain rfl := Option.some.inj ho
              have h0 : a'.eval (.tmp 17) = .pointer (some ⟨g, o + k * 21, none⟩) := (gds_of hnd 2 17 (by kernel_rfl) :)
              exact s_ld _ _ _ y rfl h0 (hc.out _ hB) (hK _ _ rfl (Below.refl _ _))
            | 4, _, ho, _ =>
              obtain rfl := Option.some.inj ho
              have h0 : a'.eval (.tmp 3) = .pointer (some ⟨w.heap.size, 0, none⟩) := (hx 3 (by decide)).trans rfl
              exact f_key _ _ ky rfl h0 (K.below hB hq.out) (hK _ _ rfl (Below.refl _ _))
            | j + 5, hj, _, _ => omega
          · intro f v hf hB
            have e0 : f 0 = (.slice (some ⟨g, o, none⟩) n c) := hf (0, 15) (by decide)
            have e1 : f 1 = (.int .i64 (k : Int)) := hf (1, 16) (by decide)
            have e2 : f 2 = (.pointer (some ⟨g, o + k * 21, none⟩)) := hf (2, 17) (by decide)
            have e3 : f 3 = (.agg #[.int .i64 y.prio, .int .i64 y.src.base.k, .int .i64 y.src.base.a, .int .i64 y.src.base.b, .int .i64 y.src.base.c, .int .i64 y.src.base.d, .int .i64 y.src.len, .int .i64 y.dst.base.k, .int .i64 y.dst.base.a, .int .i64 y.dst.base.b, .int .i64 y.dst.base.c, .int .i64 y.dst.base.d, .int .i64 y.dst.len, .int .i64 y.proto, .int .i64 y.slo, .int .i64 y.shi, .int .i64 y.dlo, .int .i64 y.dhi, .int .i64 y.tenant, .int .i64 y.weight, .int .i64 y.chain]) := hf (3, 18) (by decide)
            have e4 : f 4 = (.agg #[.int .i64 ky.src.k, .int .i64 ky.src.a, .int .i64 ky.src.b, .int .i64 ky.src.c, .int .i64 ky.src.d, .int .i64 ky.dst.k, .int .i64 ky.dst.a, .int .i64 ky.dst.b, .int .i64 ky.dst.c, .int .i64 ky.dst.d, .int .i64 ky.proto, .int .i64 ky.sport, .int .i64 ky.dport]) := hf (4, 19) (by decide)
            simp only [List.foldl_cons, List.foldl_nil, List.drop_succ_cons, List.drop_zero, e0, e1, e2, e3, e4]
            clear e0 e1 e2 e3 e4 hf
            go_simp
            go_wp2_with fail
            refine Calls.mono (ruleHasSB y ky true HH.out _) ?_
            rintro e w3 ⟨rfl, b3⟩
            have B3 := Lib.hid (bthen (bthen hbw.out hB) b3)
            have B4 := Lib.hid (bthen (bthen hb.out hB) b3)
            clear hB b3
            go_wp2
            first | go_ret | go_ret3
            exact ⟨ret_int (by rw [hf0.out, HD.out, HH.out]; rfl), B3.out⟩
      · obtain rfl : k = n := by omega
        have HE := Lib.hid (firstHas_end (k := ky) (rs := rs) (i := k) (by rw [HL.out]; exact Nat.le_refl _))
        go_wp2
        go_ret
        exact ⟨ret_int (by rw [hf0.out, HE.out]), hbw.out⟩
end Go.Proofs.Ythfmjnebpdhdfaa

namespace Go.Proofs.Ythfmjnebpdhdfaa
set_option maxRecDepth 100000
open Go.RowKit


set_option maxHeartbeats 2000000 in
theorem ruleForI (A : Option Addr) (n c : Nat) (rs : List Ru) (ky : Ky) (w : World) (hx : RV w w.heap.size A (rcells rs)) (hl : rs.length = n) (hn : n ≤ 1048576) :
    Calls Try.prog 34 #[.slice A n c, .agg #[.int .i64 ky.src.k, .int .i64 ky.src.a, .int .i64 ky.src.b, .int .i64 ky.src.c, .int .i64 ky.src.d, .int .i64 ky.dst.k, .int .i64 ky.dst.a, .int .i64 ky.dst.b, .int .i64 ky.dst.c, .int .i64 ky.dst.d, .int .i64 ky.proto, .int .i64 ky.sport, .int .i64 ky.dport]] w fun e w' => e = .returned (.int .i64 (ruleFor rs ky)) ∧ Below w.heap.size w w' := by
  have q0 := Lib.hid (K.new w (.cells #[.int .i64 ky.src.k, .int .i64 ky.src.a, .int .i64 ky.src.b, .int .i64 ky.src.c, .int .i64 ky.src.d, .int .i64 ky.dst.k, .int .i64 ky.dst.a, .int .i64 ky.dst.b, .int .i64 ky.dst.c, .int .i64 ky.dst.d, .int .i64 ky.proto, .int .i64 ky.sport, .int .i64 ky.dport] 40))
  have HX := Lib.hid hx
  have HL := Lib.hid hl
  clear hx hl
  cases hr : rulesOk rs with
  | false =>
    have HR := Lib.hid (ruleFor_no (k := ky) hr)
    have HQ := Lib.hid hr
    clear hr
    go_enter Try.func34, Try.ntmps34
    go_wp2_with fail
    refine Calls.mono (rulesOkI A n c rs _ (HX.out.on (Joins.below_alloc1 w _)) HL.out hn) ?_
    rintro e w1 ⟨rfl, b1⟩
    rw [HQ.out]
    have B1 := Lib.hid (bthen (Joins.below_alloc1 w _) b1)
    clear b1
    go_wp2
    go_ret
    exact ⟨ret_int HR.out.symm, B1.out⟩
  | true =>
    have HQ := Lib.hid hr
    have HR := Lib.hid (ruleFor_yes (k := ky) hr)
    have h32 := rulesOk_len hr
    clear hr
    cases hky : ky.ok with
    | false =>
      have HK := Lib.hid hky
      have HN := Lib.hid (ruleFor_key (rs := rs) hky)
      clear hky
      go_enter Try.func34, Try.ntmps34
      go_wp2_with fail
      refine Calls.mono (rulesOkI A n c rs _ (HX.out.on (Joins.below_alloc1 w _)) HL.out hn) ?_
      rintro e w1 ⟨rfl, b1⟩
      rw [HQ.out]
      have B1 := Lib.hid (bthen (Joins.below_alloc1 w _) b1)
      have q1 := Lib.hid (K.below b1 q0.out)
      clear b1
      go_wp2_with (refine loadKGd _ rfl w.heap.size rfl (by rfl) q1.out ?_)
      refine Calls.mono (keyOkIB ky false HK.out _) ?_
      rintro e w2 ⟨rfl, b2⟩
      have B2 := Lib.hid (bthen B1.out b2)
      clear b2
      go_wp2
      go_ret
      exact ⟨ret_int HN.out.symm, B2.out⟩
    | true =>
      have HK := Lib.hid hky
      clear hky
      go_enter Try.func34, Try.ntmps34
      go_wp2_with fail
      refine Calls.mono (rulesOkI A n c rs _ (HX.out.on (Joins.below_alloc1 w _)) HL.out hn) ?_
      rintro e w1 ⟨rfl, b1⟩
      rw [HQ.out]
      have B1 := Lib.hid (bthen (Joins.below_alloc1 w _) b1)
      have q1 := Lib.hid (K.below b1 q0.out)
      clear b1
      go_wp2_with (refine loadKGd _ rfl w.heap.size rfl (by rfl) q1.out ?_)
      refine Calls.mono (keyOkIB ky true HK.out _) ?_
      rintro e w2 ⟨rfl, b2⟩
      have B2 := Lib.hid (bthen B1.out b2)
      have q2 := Lib.hid (K.below b2 q1.out)
      clear b2
      have X2 := Lib.hid (HX.out.on B2.out)
      go_wp2
      go_loopw [17] (fun i wr => ∃ k : Nat, k ≤ n ∧ i = .int .i64 k ∧ Hid (ruleFor rs ky = firstHas ky k (rs.drop k)) ∧ Hid (Below w2.heap.size w2 wr)) (fun i _ => n - (intOf i).toNat)
      case atStart => exact ⟨0, Nat.zero_le _, rfl, HR, Lib.hid (Below.refl _ _)⟩
      case round =>
        obtain ⟨k, hk, rfl, hf0, hb⟩ := hrel
        have hq := Lib.hid (K.below hb.out q2.out)
        have hbw := Lib.hid (bthen B2.out hb.out)
        by_cases hlt : k < n
        · have hk1 : k < rs.length := by rw [HL.out]; exact hlt
          obtain ⟨g, o, rfl, hgl, hc0⟩ := X2.out.rule hk1
          have hc := Lib.hid (fun (v : World) (hv : Below wr.heap.size wr v) => (show v.rangeAt g (o + k * 21) rs[k].cells from fun j u hu => ((bthen hb.out hv).cell (p := ⟨g, o + k * 21 + j, none⟩) hgl).trans (hc0 j u hu)))
          have HD := Lib.hid (firstHas_drop (k := ky) hk1)
          have HOK := Lib.hid (rulesOk_at HQ.out hk1).1
          clear hc0 hgl
          generalize rs[k] = y at *
          have q3 := Lib.hid (K.new wr (.cells #[.int .i64 y.prio, .int .i64 y.src.base.k, .int .i64 y.src.base.a, .int .i64 y.src.base.b, .int .i64 y.src.base.c, .int .i64 y.src.base.d, .int .i64 y.src.len, .int .i64 y.dst.base.k, .int .i64 y.dst.base.a, .int .i64 y.dst.base.b, .int .i64 y.dst.base.c, .int .i64 y.dst.base.d, .int .i64 y.dst.len, .int .i64 y.proto, .int .i64 y.slo, .int .i64 y.shi, .int .i64 y.dlo, .int .i64 y.dhi, .int .i64 y.tenant, .int .i64 y.weight, .int .i64 y.chain] 33))
          have k3 := Lib.hid (K.old hq.out (.cells #[.int .i64 y.prio, .int .i64 y.src.base.k, .int .i64 y.src.base.a, .int .i64 y.src.base.b, .int .i64 y.src.base.c, .int .i64 y.src.base.d, .int .i64 y.src.len, .int .i64 y.dst.base.k, .int .i64 y.dst.base.a, .int .i64 y.dst.base.b, .int .i64 y.dst.base.c, .int .i64 y.dst.base.d, .int .i64 y.dst.len, .int .i64 y.proto, .int .i64 y.slo, .int .i64 y.shi, .int .i64 y.dlo, .int .i64 y.dhi, .int .i64 y.tenant, .int .i64 y.weight, .int .i64 y.chain] 33))
          have HH0 := Lib.hid (show y.has ky = y.hits ky by simp [Ru.has, HOK.out, HK.out])
          obtain ⟨b, hbb⟩ : ∃ b, y.hits ky = b := ⟨_, rfl⟩
          have HB := Lib.hid hbb
          clear hbb
          go_wp2_with (first | (with_reducible refine loadAtR rfl _ rfl g (o + k * 21) rfl y (hc.out _ (Below.refl _ _)) ?_) | (with_reducible refine storeNewRu rfl _ _ rfl rfl rfl ?_))
          refine wp_region_guards (by kernel_rfl) 3 28 [(0, 22), (1, 23), (2, 24)] _ ([.val (.agg #[.int .i64 y.prio, .int .i64 y.src.base.k, .int .i64 y.src.base.a, .int .i64 y.src.base.b, .int .i64 y.src.base.c, .int .i64 y.src.base.d, .int .i64 y.src.len, .int .i64 y.dst.base.k, .int .i64 y.dst.base.a, .int .i64 y.dst.base.b, .int .i64 y.dst.base.c, .int .i64 y.dst.base.d, .int .i64 y.dst.len, .int .i64 y.proto, .int .i64 y.slo, .int .i64 y.shi, .int .i64 y.dlo, .int .i64 y.dhi, .int .i64 y.tenant, .int .i64 y.weight, .int .i64 y.chain]), (.pr (fun w v => ∃ g, v = .agg #[.func (.func 111) #[] #[.pointer (some ⟨g, 0, none⟩)], .func (.func 113) #[] #[.pointer (some ⟨g, 0, none⟩)], .func (.func 114) #[] #[.pointer (some ⟨g, 0, none⟩)], .func (.func 115) #[] #[.pointer (some ⟨g, 0, none⟩)], .func (.func 116) #[] #[.pointer (some ⟨g, 0, none⟩)]] ∧ w.heap[g]? = some (.cells #[.int .i64 y.prio, .int .i64 y.src.base.k, .int .i64 y.src.base.a, .int .i64 y.src.base.b, .int .i64 y.src.base.c, .int .i64 y.src.base.d, .int .i64 y.src.len, .int .i64 y.dst.base.k, .int .i64 y.dst.base.a, .int .i64 y.dst.base.b, .int .i64 y.dst.base.c, .int .i64 y.dst.base.d, .int .i64 y.dst.len, .int .i64 y.proto, .int .i64 y.slo, .int .i64 y.shi, .int .i64 y.dlo, .int .i64 y.dhi, .int .i64 y.tenant, .int .i64 y.weight, .int .i64 y.chain] 33 (0, 0))) (fun _ _ _ hb ⟨g, e, h⟩ => ⟨g, e, K.below hb h⟩)), .val (.agg #[.int .i64 ky.src.k, .int .i64 ky.src.a, .int .i64 ky.src.b, .int .i64 ky.src.c, .int .i64 ky.src.d, .int .i64 ky.dst.k, .int .i64 ky.dst.a, .int .i64 ky.dst.b, .int .i64 ky.dst.c, .int .i64 ky.dst.d, .int .i64 ky.proto, .int .i64 ky.sport, .int .i64 ky.dport])]) (by kernel_rfl) (by kernel_rfl) (by kernel_rfl) rfl rfl ?_ ?_
          · intro j o hj ho hr a' v K' hx hnd hB hK
            match j, hj, ho, hr with
            | 0, _, ho, _ =>
              obtain rfl := Option.some.inj ho
              have h0 : a'.eval (.tmp 6) = .pointer (some ⟨wr.heap.size, 0, none⟩) := (hx 6 (by decide)).trans rfl
              exact r_row _ _ y rfl h0 (K.below hB q3.out) (hK _ _ rfl (Below.refl _ _))
            | 1, _, ho, _ =>
              obtain rfl := Option.some.inj ho
              have h0 : a'.eval (.tmp 22) = .agg #[.int .i64 y.prio, .int .i64 y.src.base.k, .int .i64 y.src.base.a, .int .i64 y.src.base.b, .int .i64 y.src.base.c, .int .i64 y.src.base.d, .int .i64 y.src.len, .int .i64 y.dst.base.k, .int .i64 y.dst.base.a, .int .i64 y.dst.base.b, .int .i64 y.dst.base.c, .int .i64 y.dst.base.d, .int .i64 y.dst.len, .int .i64 y.proto, .int .i64 y.slo, .int .i64 y.shi, .int .i64 y.dlo, .int .i64 y.dhi, .int .i64 y.tenant, .int .i64 y.weight, .int .i64 y.chain] := (gds_of hnd 0 22 (by kernel_rfl) :)
              refine u_compI _ _ _ rfl h0 (Calls.mono (compiledC y _) ?_)
              rintro e' v' ⟨g, rfl, hg, b6⟩
              exact ⟨_, rfl, hK _ _ ⟨g, rfl, hg⟩ b6⟩
            | 2, _, ho, _ =>
              obtain rfl := Option.some.inj ho
              have h0 : a'.eval (.tmp 3) = .pointer (some ⟨w.heap.size, 0, none⟩) := (hx 3 (by decide)).trans rfl
              exact r_key _ _ ky rfl h0 (K.below hB k3.out) (hK _ _ rfl (Below.refl _ _))
            | j + 3, hj, _, _ => omega
          · intro f v hf hB
            have e0 : f 0 = (.agg #[.int .i64 y.prio, .int .i64 y.src.base.k, .int .i64 y.src.base.a, .int .i64 y.src.base.b, .int .i64 y.src.base.c, .int .i64 y.src.base.d, .int .i64 y.src.len, .int .i64 y.dst.base.k, .int .i64 y.dst.base.a, .int .i64 y.dst.base.b, .int .i64 y.dst.base.c, .int .i64 y.dst.base.d, .int .i64 y.dst.len, .int .i64 y.proto, .int .i64 y.slo, .int .i64 y.shi, .int .i64 y.dlo, .int .i64 y.dhi, .int .i64 y.tenant, .int .i64 y.weight, .int .i64 y.chain]) := hf (0, 22) (by decide)
            have e2 : f 2 = (.agg #[.int .i64 ky.src.k, .int .i64 ky.src.a, .int .i64 ky.src.b, .int .i64 ky.src.c, .int .i64 ky.src.d, .int .i64 ky.dst.k, .int .i64 ky.dst.a, .int .i64 ky.dst.b, .int .i64 ky.dst.c, .int .i64 ky.dst.d, .int .i64 ky.proto, .int .i64 ky.sport, .int .i64 ky.dport]) := hf (2, 24) (by decide)
            obtain ⟨g3, e1, hg3⟩ := hf (1, 23) (by decide)
            simp only [List.foldl_cons, List.foldl_nil, List.drop_succ_cons, List.drop_zero, e0, e2, e1]
            clear e0 e2 e1 hf
            go_simp
            have R3 := Lib.hid hg3
            clear hg3
            go_wp2_with fail
            refine Calls.mono (matchC y ky g3 _ R3.out) ?_
            rintro e w3 ⟨rfl, b3⟩
            rw [HB.out]
            have B3 := Lib.hid (bthen (bthen (bthen hbw.out (Joins.below_alloc1 wr _)) hB) b3)
            have B4 := Lib.hid (bthen (bthen (bthen hb.out (Joins.below_alloc1 wr _)) hB) b3)
            clear hB b3 R3
            cases b with
            | false =>
              go_wp2
              go_roundw
              case rel => exact ⟨k + 1, by omega, by go_num, Lib.hid (by rw [hf0.out, HD.out, HH0.out, HB.out]; rfl), B4⟩
              case measure => simp [intOf]; omega
            | true =>
              go_wp2
              first | go_ret | go_ret3
              exact ⟨ret_int (by rw [hf0.out, HD.out, HH0.out, HB.out]; rfl), B3.out⟩
        · obtain rfl : k = n := by omega
          have HE := Lib.hid (firstHas_end (k := ky) (rs := rs) (i := k) (by rw [HL.out]; exact Nat.le_refl _))
          go_wp2
          go_ret
          exact ⟨ret_int (by rw [hf0.out, HE.out]), hbw.out⟩
end Go.Proofs.Ythfmjnebpdhdfaa

namespace Go.Proofs.Ythfmjnebpdhdfaa
set_option maxRecDepth 100000
open Go.RowKit Go.ChangeShapes Go.WideShapes Go.ChangeAt

theorem listedR {α : Type} (n : Nat) (P : Nat → α → Prop) (h : ∀ i, i < n → ∃ y, P i y) : ∃ ys : List α, ys.length = n ∧ ∀ i (hi : i < ys.length), P i ys[i] := by
  induction n with
  | zero => exact ⟨[], rfl, fun i hi => absurd hi (by simp)⟩
  | succ n ih =>
    obtain ⟨ys, hl, hp⟩ := ih (fun i hi => h i (by omega))
    obtain ⟨y, hy⟩ := h n (by omega)
    refine ⟨ys ++ [y], by simp [hl], fun i hi => ?_⟩
    by_cases hi2 : i < ys.length
    · rw [List.getElem_append_left hi2]
      exact hp i hi2
    · have : i = n := by simp at hi; omega
      subst this
      rw [List.getElem_append_right (by omega)]
      simpa using hy
theorem addr_addR (a : Addr) (k l : Nat) : (a.add k).add l = a.add (k + l) := by
  obtain ⟨g, o, s⟩ := a
  by_cases hk : k = 0
  · subst hk; simp [Addr.add]
  · by_cases hl : l = 0
    · subst hl; simp [Addr.add]
    · simp only [Addr.add, hk, hl, if_false, show ¬ (k + l = 0) by omega, Nat.add_assoc]
theorem addr_addN (g o j : Nat) : (⟨g, o, none⟩ : Addr).add j = ⟨g, o + j, none⟩ := Addr.add_mid g o j

theorem rules_in {H : Type} {enc : TypeId × Value → H} {w : World} {A : Option Addr} {n c : Nat} {d : DataW H} {p : List MemPlace} (h : DataW.Trod enc Try.prog w 0 (fun _ => true) true 51 (.slice A n c) d p) :
    ∃ rs, RIn w A n c rs := by
  obtain ⟨fuel, h⟩ := h
  simp only [Value.cells] at h
  rcases DataW.trod_slice Try.underlying51 h with ⟨hcs, _⟩ | ⟨a, len, cap, elems, rest, n', _, hcs, _, _, hl, hm, hlen, hel, _, _⟩
  · simp at hcs
    obtain ⟨rfl, rfl, rfl⟩ := hcs
    exact ⟨[], rfl, Nat.le_refl _, Nat.zero_le _, RV.nil_ _ _ _⟩
  · simp at hcs
    obtain ⟨rfl, rfl, rfl⟩ := hcs
    have hc2 : Try.prog.cellsOf 27 = 21 := by kernel_rfl
    have each : ∀ i, i < n → ∃ y : Ru, ∀ j v, y.cells[j]? = some v → w.cell? (a.add (i * 21 + j)) = some v := by
      intro i hi
      have h1 := hel i hi
      rw [List.getElem?_eq_getElem (by omega), hc2, Option.bind_eq_some_iff] at h1
      obtain ⟨cs, h2, h3⟩ := h1
      have hs := World.cells?_some h2
      obtain ⟨y, rfl⟩ := rule_cells h3 hs.2.1
      refine ⟨y, fun j v hv => ?_⟩
      have hj : j < 21 := by
        have := (List.getElem?_eq_some_iff.1 hv).1
        rwa [Ru.cells_length] at this
      have a0 := hs.2.2 j hj
      rw [addr_addR] at a0
      rw [a0]
      exact hv
    obtain ⟨ys, hyl, hys⟩ := listedR n _ each
    refine ⟨ys, hyl, hl, hm, fun hp => ?_⟩
    rw [rcells_length] at hp
    obtain ⟨g, o, spot⟩ := a
    have h0 := hys 0 (by omega) 0 _ rfl
    have hspot : spot = none := by simpa [Addr.add] using World.cell?_spot h0
    subst hspot
    refine ⟨g, o, rfl, ?_, fun j u hu => ?_⟩
    · have := World.block_lt_of_cell? w _ h0
      rw [addr_addN] at this
      exact this
    · have hj : j < ys.length * 21 := by
        rw [← rcells_length]
        exact (List.getElem?_eq_some_iff.1 hu).1
      have hi : j / 21 < ys.length := by omega
      have e2 : j / 21 * 21 + j % 21 = j := by omega
      have h3 := rcells_get ys (j / 21) (j % 21) hi (Nat.mod_lt _ (by omega))
      rw [e2, hu] at h3
      have h4 := hys (j / 21) hi (j % 21) u h3.symm
      rw [addr_addN, e2] at h4
      exact h4
end Go.Proofs.Ythfmjnebpdhdfaa

namespace Go.Proofs.Ythfmjnebpdhdfaa
set_option maxRecDepth 100000
open Go.RowKit Go.ChangeShapes Go.WideShapes Go.ChangeAt

theorem len13 {α : Type} {l : List α} (h : l.length = 13) : ∃ c0 c1 c2 c3 c4 c5 c6 c7 c8 c9 c10 c11 c12, l = [c0, c1, c2, c3, c4, c5, c6, c7, c8, c9, c10, c11, c12] := by
  match l, h with
  | [c0, c1, c2, c3, c4, c5, c6, c7, c8, c9, c10, c11, c12], _ => exact ⟨c0, c1, c2, c3, c4, c5, c6, c7, c8, c9, c10, c11, c12, rfl⟩

theorem key_in {H : Type} {enc : TypeId × Value → H} {w : World} {r : Reach} {b0 base : Nat} {spare : Nat → Bool} {held : Bool} {v : Value} {d : DataW H} {p : List MemPlace}
    (hv : Value.okWide Try.prog w r b0 37 v) (h : DataW.Trod enc Try.prog w base spare held 37 v d p) : ∃ y : Ky, v = y.val := by
  obtain ⟨cs, rfl, hsz⟩ := okWide_struct Try.underlying37 hv
  obtain ⟨fuel, hf⟩ := h
  have hl : cs.toList.length = 13 := by
    rw [Array.length_toList, hsz]
    kernel_rfl
  obtain ⟨c0, c1, c2, c3, c4, c5, c6, c7, c8, c9, c10, c11, c12, hcs⟩ := len13 hl
  simp only [Value.cells] at hf
  rw [hcs] at hf
  obtain ⟨n2, e2⟩ := field_int Try.underlying37 hf 2 _ rfl Try.underlying3 (by kernel_rfl)
  obtain ⟨n3, e3⟩ := field_int Try.underlying37 hf 3 _ rfl Try.underlying3 (by kernel_rfl)
  obtain ⟨n4, e4⟩ := field_int Try.underlying37 hf 4 _ rfl Try.underlying3 (by kernel_rfl)
  obtain ⟨xs, m, _, _, _, hlen, hx⟩ := DataW.trod_struct Try.underlying37 hf
  have hlen' : xs.length = 5 := hlen
  have hc5 : Try.prog.cellsOf 23 = 5 := by kernel_rfl
  have hg0 : DataW.trod enc Try.prog w base spare held m 23 (([c0, c1, c2, c3, c4, c5, c6, c7, c8, c9, c10, c11, c12].drop 0).take (Try.prog.cellsOf 23)) = xs[0]? := hx 0 _ rfl
  have hg1 : DataW.trod enc Try.prog w base spare held m 23 (([c0, c1, c2, c3, c4, c5, c6, c7, c8, c9, c10, c11, c12].drop 5).take (Try.prog.cellsOf 23)) = xs[1]? := hx 1 _ rfl
  rw [List.getElem?_eq_getElem (by omega)] at hg0 hg1
  obtain ⟨y0, hy0⟩ := addr_cells hg0
  obtain ⟨y1, hy1⟩ := addr_cells hg1
  rw [hc5] at hy0 hy1
  simp at e2 e3 e4 hy0 hy1
  obtain ⟨rfl, rfl, rfl, rfl, rfl⟩ := hy0
  obtain ⟨rfl, rfl, rfl, rfl, rfl⟩ := hy1
  subst e2 e3 e4
  refine ⟨⟨y0, y1, n2, n3, n4⟩, ?_⟩
  cases cs
  try simp only at hcs
  rw [hcs]
  rfl
end Go.Proofs.Ythfmjnebpdhdfaa
