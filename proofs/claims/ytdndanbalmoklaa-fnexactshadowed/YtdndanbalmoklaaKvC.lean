/-
  A region that draws its order, the first operations of which leave a value each, or a slice of bytes that can be read, and touch nothing that was there before; the others follow in their order. Plain: any program. Single operations on rules and rows of rules, each by what it leaves. The laws' own comparison of lists of rules.
-/
import Derived.Test.YtdndanbalmoklaaRegThen
import Derived.Test.YtdndanbalmoklaaBytesOf
import Derived.Test.YtdndanbalmoklaaRuRow
namespace Go.Proofs.Ytdndanbalmoklaa
set_option maxRecDepth 100000
open Go.RowKit

/-- What an operation leaves: a value; a slice of n bytes that reads as bs; anything. -/
inductive Fc where
  | val (v : Value)
  | rb (n : Nat) (bs : List UInt8)
  | any
def Fc.holds : Fc → World → Value → Prop
  | .val u, _, v => v = u
  | .rb n bs, w, v => ∃ A c, v = .slice A n c ∧ RB w w.heap.size A bs
  | .any, _, _ => True
theorem Fc.on {w w' : World} (hb : Below w.heap.size w w') (f : Fc) (v : Value) (h : f.holds w v) : f.holds w' v := by
  cases f with
  | val u => exact h
  | rb n bs =>
    obtain ⟨A, c, e, r⟩ := h
    exact ⟨A, c, e, (r.below hb).more hb.size⟩
  | any => trivial

section
variable {P : Program} {ops : Array Oper} {Q : Exit → Act → World → Prop}
theorem wp_region_facts {id : Nat} {a : Act} {w : World} (hmx : P.follows .mixedOrders = true) (k n : Nat) (L : List (Nat × Nat)) (R : List Oper) (F : List Fc) (hf : thenB ops n k = true) (hL : dstsOf ops k = L) (hR : ops.toList.drop k = R) (hn : a.tmps.size = n)
    (hop : ∀ (j : Nat) o, j < k → ops[j]? = some o → ∀ a' v K, (∀ t, (∀ p ∈ L, p.2 ≠ t) → a'.tmps.getD t undef = a.tmps.getD t undef) → (∀ p ∈ needOf ops j, (F.getD p.1 .any).holds v (a'.tmps.getD p.2 undef)) → Below w.heap.size w v →
      (∀ u v', (F.getD j .any).holds v' u → Below v.heap.size v v' → K (a'.put o.dst u) v') → o.wp P a' v K Q)
    (hend : ∀ (f : Nat → Value) v, (∀ p ∈ L, (F.getD p.1 .any).holds v (f p.1)) → Below w.heap.size w v → wpList P ops Q R (L.foldl (fun b p => b.put (some p.2) (f p.1)) a) v) : (Code.region id ops true).wp P Q a w := by
  refine wp_region_then hmx k n L R hf hL hR (fun j v u => (F.getD j .any).holds v u) (fun v => Below w.heap.size w v) hn ⟨rfl, rfl, rfl, Nat.le_refl _, fun _ _ => rfl⟩ ?_ (fun f v hf hB => hend f v hf hB)
  intro j o hj ho a' v K hk hnd hB hK
  exact hop j o hj ho a' v K hk hnd hB (fun u v' hu hb => hK u v' hu (fun i x hx => Fc.on hb _ _ hx) (bthen hB hb))
theorem fact_of {j : Nat} {F : List Fc} {v : World} {a' : Act} (hnd : ∀ p ∈ needOf ops j, (F.getD p.1 .any).holds v (a'.tmps.getD p.2 undef)) (i t : Nat) (h : (needOf ops j).contains (i, t) = true) : (F.getD i .any).holds v (a'.eval (.tmp t)) :=
  hnd (i, t) (by simpa using h)
end
end Go.Proofs.Ytdndanbalmoklaa

namespace Go.Proofs.Ytdndanbalmoklaa
set_option maxRecDepth 100000
open Go.RowKit

section
variable {o : Oper} {a : Act} {w : World} {K : Act → World → Prop} {Q : Exit → Act → World → Prop}
theorem r_move (x : Operand) (v : Value) (ho : o.op = .move x) (hx : a.eval x = v) (hK : K (a.put o.dst v) w) : o.wp Try.prog a w K Q := by
  unfold Oper.wp execOp
  simp only [ho, hx]
  go_simp
  exact hK
theorem r_idx (x y : Operand) (g of n c k : Nat) (ho : o.op = .indexAddr 61 x y) (hx : a.eval x = .slice (some ⟨g, of, none⟩) n c) (hy : a.eval y = .int .i64 (k : Int)) (hk : k < n) (hK : K (a.put o.dst (.pointer (some ⟨g, of + k * 21, none⟩))) w) : o.wp Try.prog a w K Q := by
  unfold Oper.wp execOp
  simp only [ho, hx, hy]
  go_simp
  exact hK
theorem r_load (x : Operand) (g of : Nat) (r : Ru) (ho : o.op = .load 53 x) (hx : a.eval x = .pointer (some ⟨g, of, none⟩)) (hc : w.rangeAt g of r.cells) (hK : K (a.put o.dst (.agg #[.int .i64 r.prio, .int .i64 r.src.base.k, .int .i64 r.src.base.a, .int .i64 r.src.base.b, .int .i64 r.src.base.c, .int .i64 r.src.base.d, .int .i64 r.src.len, .int .i64 r.dst.base.k, .int .i64 r.dst.base.a, .int .i64 r.dst.base.b, .int .i64 r.dst.base.c, .int .i64 r.dst.base.d, .int .i64 r.dst.len, .int .i64 r.proto, .int .i64 r.slo, .int .i64 r.shi, .int .i64 r.dlo, .int .i64 r.dhi, .int .i64 r.tenant, .int .i64 r.weight, .int .i64 r.chain])) w) : o.wp Try.prog a w K Q :=
  wp_load_mid 53 x ho g of hx r.cells _ hc Try.underlying53 rfl info_rule hK
theorem r_loadL (x : Operand) (g of : Nat) (r : Ru) (ho : o.op = .load 83 x) (hx : a.eval x = .pointer (some ⟨g, of, none⟩)) (hc : w.rangeAt g of r.cells) (hK : K (a.put o.dst (.agg #[.int .i64 r.prio, .int .i64 r.src.base.k, .int .i64 r.src.base.a, .int .i64 r.src.base.b, .int .i64 r.src.base.c, .int .i64 r.src.base.d, .int .i64 r.src.len, .int .i64 r.dst.base.k, .int .i64 r.dst.base.a, .int .i64 r.dst.base.b, .int .i64 r.dst.base.c, .int .i64 r.dst.base.d, .int .i64 r.dst.len, .int .i64 r.proto, .int .i64 r.slo, .int .i64 r.shi, .int .i64 r.dlo, .int .i64 r.dhi, .int .i64 r.tenant, .int .i64 r.weight, .int .i64 r.chain])) w) : o.wp Try.prog a w K Q :=
  wp_load_mid 83 x ho g of hx r.cells _ hc Try.underlying83 rfl info_lrule hK
theorem u_eqRule (x y : Operand) (x0 x1 : Value) (ts : Array TypeId) (ho : o.op = .call { callee := .value (.func 109), args := #[x, y], argTypes := ts }) (h0 : a.eval x = x0) (h1 : a.eval y = x1)
    (h : Calls Try.prog 109 #[x0, x1] w fun e w' => ∃ v, e = .returned v ∧ K (a.put o.dst v) w') : o.wp Try.prog a w K Q := by
  unfold Oper.wp execOp
  simp only [ho, resolve, List.map_toArray, List.map_cons, List.map_nil, h0, h1, show ∀ f, a.eval (.func f) = .func (.func f) #[] #[] from fun _ => rfl]
  go_simp
  exact h.mono fun e w' ⟨u, he, hk⟩ => by subst he; exact hk
theorem u_toRule (x : Operand) (x0 : Value) (ts : Array TypeId) (ho : o.op = .call { callee := .value (.func 57), args := #[x], argTypes := ts }) (h0 : a.eval x = x0)
    (h : Calls Try.prog 57 #[x0] w fun e w' => ∃ v, e = .returned v ∧ K (a.put o.dst v) w') : o.wp Try.prog a w K Q := by
  unfold Oper.wp execOp
  simp only [ho, resolve, List.map_toArray, List.map_cons, List.map_nil, h0, show ∀ f, a.eval (.func f) = .func (.func f) #[] #[] from fun _ => rfl]
  go_simp
  exact h.mono fun e w' ⟨u, he, hk⟩ => by subst he; exact hk
end
end Go.Proofs.Ytdndanbalmoklaa

namespace Go.Proofs.Ytdndanbalmoklaa
set_option maxRecDepth 100000
open Go.RowKit

set_option maxHeartbeats 1000000 in
theorem eqRuleS_C (A D : Option Addr) (n c d : Nat) (rs : List Ru) (w : World) (hx : RV w w.heap.size A (rcells rs)) (hy : RV w w.heap.size D (rcells rs)) (hl : rs.length = n) (hn : n ≤ 1048576) :
    Calls Try.prog 53 #[.slice A n c, .slice D n d] w fun e w' => e = .returned (.bool true) ∧ Below w.heap.size w w' := by
  have HX := Lib.hid hx
  have HY := Lib.hid hy
  have HL := Lib.hid hl
  clear hx hy hl
  go_enter Try.func53, Try.ntmps53
  go_wp2
  go_loopw [5] (fun i wr => ∃ k : Nat, k ≤ n ∧ i = .int .i64 k ∧ Below w.heap.size w wr) (fun i _ => n - (intOf i).toNat)
  case atStart => exact ⟨0, Nat.zero_le _, rfl, Below.refl _ _⟩
  case round =>
    obtain ⟨k, hk, rfl, hb⟩ := hrel
    by_cases hlt : k < n
    · have hk1 : k < rs.length := by rw [HL.out]; exact hlt
      obtain ⟨g, o, rfl, hg, hc0⟩ := HX.out.rule hk1
      obtain ⟨g', o', rfl, hg', hd0⟩ := HY.out.rule hk1
      have hcc := Lib.hid (fun (v : World) (hv : Below wr.heap.size wr v) => (show v.rangeAt g (o + k * 21) rs[k].cells from fun j u hu => ((bthen hb hv).cell (p := ⟨g, o + k * 21 + j, none⟩) hg).trans (hc0 j u hu)))
      have hdd := Lib.hid (fun (v : World) (hv : Below wr.heap.size wr v) => (show v.rangeAt g' (o' + k * 21) rs[k].cells from fun j u hu => ((bthen hb hv).cell (p := ⟨g', o' + k * 21 + j, none⟩) hg').trans (hd0 j u hu)))
      clear hc0 hd0 hg hg'
      generalize rs[k] = y at *
      have HB := Lib.hid hb
      clear hb
      go_wp2_with fail
      refine wp_region_facts (by kernel_rfl) 9 27 [(0, 17), (1, 18), (2, 19), (3, 20), (4, 21), (5, 22), (6, 23), (7, 24), (8, 25)] _ ([.val (.slice (some ⟨g, o, none⟩) n c), .val (.int .i64 (k : Int)), .val (.pointer (some ⟨g, o + k * 21, none⟩)), .val (.agg #[.int .i64 y.prio, .int .i64 y.src.base.k, .int .i64 y.src.base.a, .int .i64 y.src.base.b, .int .i64 y.src.base.c, .int .i64 y.src.base.d, .int .i64 y.src.len, .int .i64 y.dst.base.k, .int .i64 y.dst.base.a, .int .i64 y.dst.base.b, .int .i64 y.dst.base.c, .int .i64 y.dst.base.d, .int .i64 y.dst.len, .int .i64 y.proto, .int .i64 y.slo, .int .i64 y.shi, .int .i64 y.dlo, .int .i64 y.dhi, .int .i64 y.tenant, .int .i64 y.weight, .int .i64 y.chain]), .val (.slice (some ⟨g', o', none⟩) n d), .val (.int .i64 (k : Int)), .val (.pointer (some ⟨g', o' + k * 21, none⟩)), .val (.agg #[.int .i64 y.prio, .int .i64 y.src.base.k, .int .i64 y.src.base.a, .int .i64 y.src.base.b, .int .i64 y.src.base.c, .int .i64 y.src.base.d, .int .i64 y.src.len, .int .i64 y.dst.base.k, .int .i64 y.dst.base.a, .int .i64 y.dst.base.b, .int .i64 y.dst.base.c, .int .i64 y.dst.base.d, .int .i64 y.dst.len, .int .i64 y.proto, .int .i64 y.slo, .int .i64 y.shi, .int .i64 y.dlo, .int .i64 y.dhi, .int .i64 y.tenant, .int .i64 y.weight, .int .i64 y.chain]), .val (.bool true)]) (by kernel_rfl) (by kernel_rfl) rfl rfl ?_ ?_
      · intro j o hj ho a' v K' hx hnd hB hK
        match j, hj, ho with
        | 0, _, ho =>
          obtain rfl := Option.some.inj ho
          have h0 : a'.eval (.tmp 0) = .slice (some ⟨g, o, none⟩) n c := (hx 0 (by decide)).trans rfl
          exact r_move _ _ rfl h0 (hK _ _ rfl (Below.refl _ _))
        | 1, _, ho =>
          obtain rfl := Option.some.inj ho
          have h0 : a'.eval (.tmp 5) = .int .i64 (k : Int) := (hx 5 (by decide)).trans rfl
          exact r_move _ _ rfl h0 (hK _ _ rfl (Below.refl _ _))
        | 2, _, ho =>
          obtain rfl := Option.some.inj ho
          have h0 : a'.eval (.tmp 17) = .slice (some ⟨g, o, none⟩) n c := (fact_of hnd 0 17 (by kernel_rfl) :)
          have h1 : a'.eval (.tmp 18) = .int .i64 (k : Int) := (fact_of hnd 1 18 (by kernel_rfl) :)
          exact r_idx _ _ _ _ _ _ _ rfl h0 h1 hlt (hK _ _ rfl (Below.refl _ _))
        | 3, _, ho =>
          obtain rfl := Option.some.inj ho
          have h0 : a'.eval (.tmp 19) = .pointer (some ⟨g, o + k * 21, none⟩) := (fact_of hnd 2 19 (by kernel_rfl) :)
          exact r_load _ _ _ y rfl h0 (hcc.out _ hB) (hK _ _ rfl (Below.refl _ _))
        | 4, _, ho =>
          obtain rfl := Option.some.inj ho
          have h0 : a'.eval (.tmp 1) = .slice (some ⟨g', o', none⟩) n d := (hx 1 (by decide)).trans rfl
          exact r_move _ _ rfl h0 (hK _ _ rfl (Below.refl _ _))
        | 5, _, ho =>
          obtain rfl := Option.some.inj ho
          have h0 : a'.eval (.tmp 5) = .int .i64 (k : Int) := (hx 5 (by decide)).trans rfl
          exact r_move _ _ rfl h0 (hK _ _ rfl (Below.refl _ _))
        | 6, _, ho =>
          obtain rfl := Option.some.inj ho
          have h0 : a'.eval (.tmp 21) = .slice (some ⟨g', o', none⟩) n d := (fact_of hnd 4 21 (by kernel_rfl) :)
          have h1 : a'.eval (.tmp 22) = .int .i64 (k : Int) := (fact_of hnd 5 22 (by kernel_rfl) :)
          exact r_idx _ _ _ _ _ _ _ rfl h0 h1 hlt (hK _ _ rfl (Below.refl _ _))
        | 7, _, ho =>
          obtain rfl := Option.some.inj ho
          have h0 : a'.eval (.tmp 23) = .pointer (some ⟨g', o' + k * 21, none⟩) := (fact_of hnd 6 23 (by kernel_rfl) :)
          exact r_load _ _ _ y rfl h0 (hdd.out _ hB) (hK _ _ rfl (Below.refl _ _))
        | 8, _, ho =>
          obtain rfl := Option.some.inj ho
          have h0 : a'.eval (.tmp 20) = .agg #[.int .i64 y.prio, .int .i64 y.src.base.k, .int .i64 y.src.base.a, .int .i64 y.src.base.b, .int .i64 y.src.base.c, .int .i64 y.src.base.d, .int .i64 y.src.len, .int .i64 y.dst.base.k, .int .i64 y.dst.base.a, .int .i64 y.dst.base.b, .int .i64 y.dst.base.c, .int .i64 y.dst.base.d, .int .i64 y.dst.len, .int .i64 y.proto, .int .i64 y.slo, .int .i64 y.shi, .int .i64 y.dlo, .int .i64 y.dhi, .int .i64 y.tenant, .int .i64 y.weight, .int .i64 y.chain] := (fact_of hnd 3 20 (by kernel_rfl) :)
          have h1 : a'.eval (.tmp 24) = .agg #[.int .i64 y.prio, .int .i64 y.src.base.k, .int .i64 y.src.base.a, .int .i64 y.src.base.b, .int .i64 y.src.base.c, .int .i64 y.src.base.d, .int .i64 y.src.len, .int .i64 y.dst.base.k, .int .i64 y.dst.base.a, .int .i64 y.dst.base.b, .int .i64 y.dst.base.c, .int .i64 y.dst.base.d, .int .i64 y.dst.len, .int .i64 y.proto, .int .i64 y.slo, .int .i64 y.shi, .int .i64 y.dlo, .int .i64 y.dhi, .int .i64 y.tenant, .int .i64 y.weight, .int .i64 y.chain] := (fact_of hnd 7 24 (by kernel_rfl) :)
          refine u_eqRule _ _ _ _ _ rfl h0 h1 (Calls.mono (eqRuleC y _) ?_)
          rintro e' v' ⟨rfl, b6⟩
          exact ⟨_, rfl, hK _ _ rfl b6⟩
        | j + 9, hj, _ => omega
      · intro f v hf hB
        have e0 : f 0 = (.slice (some ⟨g, o, none⟩) n c) := hf (0, 17) (by decide)
        have e1 : f 1 = (.int .i64 (k : Int)) := hf (1, 18) (by decide)
        have e2 : f 2 = (.pointer (some ⟨g, o + k * 21, none⟩)) := hf (2, 19) (by decide)
        have e3 : f 3 = (.agg #[.int .i64 y.prio, .int .i64 y.src.base.k, .int .i64 y.src.base.a, .int .i64 y.src.base.b, .int .i64 y.src.base.c, .int .i64 y.src.base.d, .int .i64 y.src.len, .int .i64 y.dst.base.k, .int .i64 y.dst.base.a, .int .i64 y.dst.base.b, .int .i64 y.dst.base.c, .int .i64 y.dst.base.d, .int .i64 y.dst.len, .int .i64 y.proto, .int .i64 y.slo, .int .i64 y.shi, .int .i64 y.dlo, .int .i64 y.dhi, .int .i64 y.tenant, .int .i64 y.weight, .int .i64 y.chain]) := hf (3, 20) (by decide)
        have e4 : f 4 = (.slice (some ⟨g', o', none⟩) n d) := hf (4, 21) (by decide)
        have e5 : f 5 = (.int .i64 (k : Int)) := hf (5, 22) (by decide)
        have e6 : f 6 = (.pointer (some ⟨g', o' + k * 21, none⟩)) := hf (6, 23) (by decide)
        have e7 : f 7 = (.agg #[.int .i64 y.prio, .int .i64 y.src.base.k, .int .i64 y.src.base.a, .int .i64 y.src.base.b, .int .i64 y.src.base.c, .int .i64 y.src.base.d, .int .i64 y.src.len, .int .i64 y.dst.base.k, .int .i64 y.dst.base.a, .int .i64 y.dst.base.b, .int .i64 y.dst.base.c, .int .i64 y.dst.base.d, .int .i64 y.dst.len, .int .i64 y.proto, .int .i64 y.slo, .int .i64 y.shi, .int .i64 y.dlo, .int .i64 y.dhi, .int .i64 y.tenant, .int .i64 y.weight, .int .i64 y.chain]) := hf (7, 24) (by decide)
        have e8 : f 8 = (.bool true) := hf (8, 25) (by decide)
        simp only [List.foldl_cons, List.foldl_nil, List.drop_succ_cons, List.drop_zero, e0, e1, e2, e3, e4, e5, e6, e7, e8]
        clear e0 e1 e2 e3 e4 e5 e6 e7 e8 hf
        go_simp
        have B2 := Lib.hid (bthen HB.out hB)
        clear hB
        go_wp2
        go_roundw
        case rel => exact ⟨k + 1, by omega, by go_num, B2.out⟩
        case measure => simp [intOf]; omega
    · go_wp2
      go_ret
      exact ⟨rfl, hb⟩
end Go.Proofs.Ytdndanbalmoklaa
