/-
  The draw of a rule: some rule.
-/
import Derived.Test.YtdndanbalmoklaaDrawSt
import Derived.Test.YtdndanbalmoklaaRule
namespace Go.Proofs.Ytdndanbalmoklaa
set_option maxRecDepth 100000
open Go.RowKit

/-- What a draw of a rule leaves. -/
def RuDrawn (w : World) (g : Nat) (A : Option Addr) (c : Nat) (bs : List UInt8) (t : Nat) (e : Ending) (w' : World) : Prop :=
  ∃ (x : Ru) (t' : Nat), e = .returned (.agg #[.int .i64 x.prio, .int .i64 x.src.base.k, .int .i64 x.src.base.a, .int .i64 x.src.base.b, .int .i64 x.src.base.c, .int .i64 x.src.base.d, .int .i64 x.src.len, .int .i64 x.dst.base.k, .int .i64 x.dst.base.a, .int .i64 x.dst.base.b, .int .i64 x.dst.base.c, .int .i64 x.dst.base.d, .int .i64 x.dst.len, .int .i64 x.proto, .int .i64 x.slo, .int .i64 x.shi, .int .i64 x.dlo, .int .i64 x.dhi, .int .i64 x.tenant, .int .i64 x.weight, .int .i64 x.chain]) ∧ t' ≤ t ∧ Cur w' g A c bs t' ∧ w.grownBy w' (some g)

section
variable {o : Oper} {a : Act} {w : World} {K : Act → World → Prop} {Q : Exit → Act → World → Prop}
theorem s_fldSlo (x : Operand) (b : Nat) (ho : o.op = .fieldAddr 53 x 4) (hx : a.eval x = .pointer (some ⟨b, 0, none⟩)) (hK : K (a.put o.dst (.pointer (some ⟨b, 14, none⟩))) w) : o.wp Try.prog a w K Q := by
  unfold Oper.wp execOp
  simp only [ho, hx]
  go_simp
  exact hK
theorem s_fldShi (x : Operand) (b : Nat) (ho : o.op = .fieldAddr 53 x 5) (hx : a.eval x = .pointer (some ⟨b, 0, none⟩)) (hK : K (a.put o.dst (.pointer (some ⟨b, 15, none⟩))) w) : o.wp Try.prog a w K Q := by
  unfold Oper.wp execOp
  simp only [ho, hx]
  go_simp
  exact hK
end

def GR5 (slo : Int) (g b : Nat) (j : Nat) (_ : Bool) (_ : World) (v : Value) : Prop := match j with
  | 0 => v = .pointer (some ⟨b, 14, none⟩)
  | 1 => v = .int .i64 slo
  | 2 => v = .pointer (some ⟨g, 0, none⟩)
  | 6 => v = .pointer (some ⟨b, 15, none⟩)
  | _ => ∃ z : Int, v = .int .i64 z
theorem need5 {slo : Int} {g b : Nat} {ops : Array Oper} {bb : Bool} {w : World} {a : Act} {j : Nat} (h : ∀ q ∈ needOf ops j, GR5 slo g b q.1 bb w (a.tmps.getD q.2 undef)) (i d : Nat) (hm : (needOf ops j).contains (i, d) = true) : GR5 slo g b i bb w (a.eval (.tmp d)) :=
  h (i, d) (by simpa using hm)

set_option maxHeartbeats 8000000 in
theorem ruleD (w : World) (g : Nat) (A : Option Addr) (c : Nat) (bs : List UInt8) (t : Nat) (prio : Int) (hc : Cur w g A c bs t) (ht : t ≤ 500000000000) :
    Calls Try.prog 136 #[.pointer (some ⟨g, 0, none⟩), .int .i64 prio] w (RuDrawn w g A c bs (t + 300)) := by
  have hgw := hc.lt
  have D0 : Hid (DS0 53 w g A c bs w.heap.size #[.int .i64 0, .int .i64 0, .int .i64 0, .int .i64 0, .int .i64 0, .int .i64 0, .int .i64 0, .int .i64 0, .int .i64 0, .int .i64 0, .int .i64 0, .int .i64 0, .int .i64 0, .int .i64 0, .int .i64 0, .int .i64 0, .int .i64 0, .int .i64 0, .int .i64 0, .int .i64 0, .int .i64 0] t (w.alloc (.cells #[.int .i64 0, .int .i64 0, .int .i64 0, .int .i64 0, .int .i64 0, .int .i64 0, .int .i64 0, .int .i64 0, .int .i64 0, .int .i64 0, .int .i64 0, .int .i64 0, .int .i64 0, .int .i64 0, .int .i64 0, .int .i64 0, .int .i64 0, .int .i64 0, .int .i64 0, .int .i64 0, .int .i64 0] 53))) := Lib.hid ⟨hc.below (Joins.below_alloc1 w _), only_new (grown_refl w (some g)) _, K.new w _, ⟨hc.lt, Nat.le_refl _⟩⟩
  clear hc
  go_enter Try.func136, Try.ntmps136
  go_wp2_with fail
  refine (kindC _ g A c bs t D0.out.cur (by omega)).mono ?_
  rintro e w1 ⟨k1, rfl, hc1, hg1⟩
  have D1 := Lib.hid (D0.out.kept hg1 hc1)
  clear hc1 hg1 D0
  go_wp2_with fail
  refine (prefixC _ g A c bs (t + 1) k1 D1.out.cur (by omega)).mono ?_
  rintro e w2 ⟨p2, t2, rfl, ht2, hc2, hg2⟩
  have D2 := Lib.hid (D1.out.kept hg2 hc2)
  clear hc2 hg2 D1
  go_wp2_with fail
  refine (prefixC _ g A c bs t2 k1 D2.out.cur (by omega)).mono ?_
  rintro e w3 ⟨p3, t3, rfl, ht3, hc3, hg3⟩
  have D3 := Lib.hid (D2.out.kept hg3 hc3)
  clear hc3 hg3 D2
  have hz3 : g < w3.heap.size := D3.out.cur.lt
  have HL3 := Lib.hid (fun (j : Nat) (h : j < 5) => lit_cell w3 [(-1), (-1), (6), (17), (1)] j h)
  go_wp2_with fail
  refine (pickC _ g A c bs t3 5 (by omega) (by omega) (D3.out.alloc _).cur (by omega)).mono ?_
  rintro e w4 ⟨y4, rfl, l4, h4, hc4, hg4⟩
  have D4 := Lib.hid ((D3.out.alloc _).kept hg4 hc4)
  obtain ⟨j4, rfl⟩ : ∃ q : Nat, y4 = q := ⟨y4.toNat, by omega⟩
  have j4b : (j4 : Int) < 5 := by omega
  obtain ⟨n4, hn4⟩ := HL3.out j4 (by omega)
  have hl4 : w4.cell? ⟨w3.heap.size, j4, none⟩ = some (.int .i64 n4) := lit_kept hg4 hn4 hz3
  clear hn4 HL3
  clear hc4 hg4 D3
  go_upto_region 3 with (with_reducible refine storeNewRu rfl _ _ rfl rfl rfl ?_)
  obtain ⟨x0, D4m⟩ : ∃ x : Ru, Hid (DS1 53 w g A c bs w.heap.size #[.int .i64 0, .int .i64 0, .int .i64 0, .int .i64 0, .int .i64 0, .int .i64 0, .int .i64 0, .int .i64 0, .int .i64 0, .int .i64 0, .int .i64 0, .int .i64 0, .int .i64 0, .int .i64 0, .int .i64 0, .int .i64 0, .int .i64 0, .int .i64 0, .int .i64 0, .int .i64 0, .int .i64 0] w4.heap.size #[.int .i64 x.prio, .int .i64 x.src.base.k, .int .i64 x.src.base.a, .int .i64 x.src.base.b, .int .i64 x.src.base.c, .int .i64 x.src.base.d, .int .i64 x.src.len, .int .i64 x.dst.base.k, .int .i64 x.dst.base.a, .int .i64 x.dst.base.b, .int .i64 x.dst.base.c, .int .i64 x.dst.base.d, .int .i64 x.dst.len, .int .i64 x.proto, .int .i64 x.slo, .int .i64 x.shi, .int .i64 x.dlo, .int .i64 x.dhi, .int .i64 x.tenant, .int .i64 x.weight, .int .i64 x.chain] (t3 + 1) (w4.alloc (.cells #[.int .i64 prio, .int .i64 p2.base.k, .int .i64 p2.base.a, .int .i64 p2.base.b, .int .i64 p2.base.c, .int .i64 p2.base.d, .int .i64 p2.len, .int .i64 p3.base.k, .int .i64 p3.base.a, .int .i64 p3.base.b, .int .i64 p3.base.c, .int .i64 p3.base.d, .int .i64 p3.len, .int .i64 n4, .int .i64 0, .int .i64 65535, .int .i64 0, .int .i64 65535, .int .i64 0, .int .i64 0, .int .i64 0] 53))) := ⟨⟨prio, p2, p3, n4, 0, 65535, 0, 65535, 0, 0, 0⟩, Lib.hid (D4.out.made _)⟩
  have BB : Hid (w4.heap.size = w4.heap.size) := Lib.hid rfl
  skip
  generalize w4.alloc (.cells #[.int .i64 prio, .int .i64 p2.base.k, .int .i64 p2.base.a, .int .i64 p2.base.b, .int .i64 p2.base.c, .int .i64 p2.base.d, .int .i64 p2.len, .int .i64 p3.base.k, .int .i64 p3.base.a, .int .i64 p3.base.b, .int .i64 p3.base.c, .int .i64 p3.base.d, .int .i64 p3.len, .int .i64 n4, .int .i64 0, .int .i64 65535, .int .i64 0, .int .i64 65535, .int .i64 0, .int .i64 0, .int .i64 0] 53) = w5 at D4m ⊢
  have D5 := D4m
  clear D4m D4 BB hl4
  go_wp2_with fail
  refine (onceC _ g A c bs (t3 + 1) 3 (by omega) (by omega) D5.out.cur (by omega)).mono ?_
  rintro e w6 ⟨b6, rfl, hc6, hg6⟩
  have D6 := Lib.hid (D5.out.kept hg6 hc6)
  clear hc6 hg6 D5
  go_upto_if 23 with fail
  go_cut [] (fun wx => ∃ (x : Ru) (u : Nat), u ≤ t + 270 ∧ Hid (DS1 53 w g A c bs w.heap.size #[.int .i64 0, .int .i64 0, .int .i64 0, .int .i64 0, .int .i64 0, .int .i64 0, .int .i64 0, .int .i64 0, .int .i64 0, .int .i64 0, .int .i64 0, .int .i64 0, .int .i64 0, .int .i64 0, .int .i64 0, .int .i64 0, .int .i64 0, .int .i64 0, .int .i64 0, .int .i64 0, .int .i64 0] w4.heap.size #[.int .i64 x.prio, .int .i64 x.src.base.k, .int .i64 x.src.base.a, .int .i64 x.src.base.b, .int .i64 x.src.base.c, .int .i64 x.src.base.d, .int .i64 x.src.len, .int .i64 x.dst.base.k, .int .i64 x.dst.base.a, .int .i64 x.dst.base.b, .int .i64 x.dst.base.c, .int .i64 x.dst.base.d, .int .i64 x.dst.len, .int .i64 x.proto, .int .i64 x.slo, .int .i64 x.shi, .int .i64 x.dlo, .int .i64 x.dhi, .int .i64 x.tenant, .int .i64 x.weight, .int .i64 x.chain] u wx))
  case first =>
    cases b6
    · go_wp2_with fail
      go_meet
      exact ⟨x0, ((t3 + 1) + 1), by omega, D6⟩
    · go_wp2_with fail
      refine (pickC _ g A c bs ((t3 + 1) + 1) 3 (by omega) (by omega) D6.out.cur (by omega)).mono ?_
      rintro e w7 ⟨y7, rfl, l7, h7, hc7, hg7⟩
      have D7 := Lib.hid (D6.out.kept hg7 hc7)
      clear hc7 hg7 D6
      have c14 := K.cell D7.out.row 14 _ rfl
      have f14 := frozen_of_row _ _ 14 _ _ D7.out.row
      go_upto_region 5 with fail
      obtain ⟨x1, D8⟩ : ∃ x : Ru, Hid (DS1 53 w g A c bs w.heap.size #[.int .i64 0, .int .i64 0, .int .i64 0, .int .i64 0, .int .i64 0, .int .i64 0, .int .i64 0, .int .i64 0, .int .i64 0, .int .i64 0, .int .i64 0, .int .i64 0, .int .i64 0, .int .i64 0, .int .i64 0, .int .i64 0, .int .i64 0, .int .i64 0, .int .i64 0, .int .i64 0, .int .i64 0] w4.heap.size #[.int .i64 x.prio, .int .i64 x.src.base.k, .int .i64 x.src.base.a, .int .i64 x.src.base.b, .int .i64 x.src.base.c, .int .i64 x.src.base.d, .int .i64 x.src.len, .int .i64 x.dst.base.k, .int .i64 x.dst.base.a, .int .i64 x.dst.base.b, .int .i64 x.dst.base.c, .int .i64 x.dst.base.d, .int .i64 x.dst.len, .int .i64 x.proto, .int .i64 x.slo, .int .i64 x.shi, .int .i64 x.dlo, .int .i64 x.dhi, .int .i64 x.tenant, .int .i64 x.weight, .int .i64 x.chain] (((t3 + 1) + 1) + 1) (w7.setCell ⟨w4.heap.size, 14, none⟩ (.int .i64 (y7 * 1024)))) := ⟨⟨x0.prio, x0.src, x0.dst, x0.proto, (y7 * 1024), x0.shi, x0.dlo, x0.dhi, x0.tenant, x0.weight, x0.chain⟩, Lib.hid (D7.out.set 14 (.int .i64 (y7 * 1024)))⟩
      generalize w7.setCell ⟨w4.heap.size, 14, none⟩ (.int .i64 (y7 * 1024)) = w8 at D8 ⊢
      clear D7 c14 f14
      go_wp2_with fail
      refine wp_region_thenP (by kernel_rfl) 7 64 [(0, 28), (1, 29), (2, 30), (3, 31), (4, 32), (5, 33), (6, 34)] _ (by kernel_rfl) (by kernel_rfl) rfl (GR5 x1.slo g w4.heap.size) (fun (b : Bool) v => ∃ u, u ≤ t + (if b then 262 else 261) ∧ DS1 53 w g A c bs w.heap.size #[.int .i64 0, .int .i64 0, .int .i64 0, .int .i64 0, .int .i64 0, .int .i64 0, .int .i64 0, .int .i64 0, .int .i64 0, .int .i64 0, .int .i64 0, .int .i64 0, .int .i64 0, .int .i64 0, .int .i64 0, .int .i64 0, .int .i64 0, .int .i64 0, .int .i64 0, .int .i64 0, .int .i64 0] w4.heap.size #[.int .i64 x1.prio, .int .i64 x1.src.base.k, .int .i64 x1.src.base.a, .int .i64 x1.src.base.b, .int .i64 x1.src.base.c, .int .i64 x1.src.base.d, .int .i64 x1.src.len, .int .i64 x1.dst.base.k, .int .i64 x1.dst.base.a, .int .i64 x1.dst.base.b, .int .i64 x1.dst.base.c, .int .i64 x1.dst.base.d, .int .i64 x1.dst.len, .int .i64 x1.proto, .int .i64 x1.slo, .int .i64 x1.shi, .int .i64 x1.dlo, .int .i64 x1.dhi, .int .i64 x1.tenant, .int .i64 x1.weight, .int .i64 x1.chain] u v) 3 (by omega) rfl ⟨(((t3 + 1) + 1) + 1), by simp; omega, D8.out.drew⟩ ?_ ?_ ?_
      · intro j o hj hjp ho b a' v K' _ hx hnd hI hK
        have hx0 : a'.eval (.tmp 0) = .pointer (some ⟨g, 0, none⟩) := (hx 0 (by decide)).trans rfl
        have hx6 : a'.eval (.tmp 6) = .pointer (some ⟨w4.heap.size, 0, none⟩) := (hx 6 (by decide)).trans rfl
        match j, hj, hjp, ho with
        | 0, _, _, ho =>
          obtain rfl := Option.some.inj ho
          exact s_fldSlo _ _ rfl hx6 (hK _ _ rfl (fun _ _ h => h) hI)
        | 1, _, _, ho =>
          obtain rfl := Option.some.inj ho
          have h0 : a'.eval (.tmp 28) = .pointer (some ⟨w4.heap.size, 14, none⟩) := (need5 hnd 0 28 (by kernel_rfl) :)
          obtain ⟨u, _, hu⟩ := id hI
          exact s_load _ _ 14 _ rfl h0 (K.cell hu.row 14 _ rfl) (hK _ _ rfl (fun _ _ h => h) hI)
        | 2, _, _, ho =>
          obtain rfl := Option.some.inj ho
          exact s_move _ _ rfl hx0 (hK _ _ rfl (fun _ _ h => h) hI)
        | 3, _, hjp, _ => exact absurd rfl hjp
        | 4, _, _, ho =>
          obtain rfl := Option.some.inj ho
          obtain ⟨z, h0⟩ : ∃ z : Int, a'.eval (.tmp 31) = .int .i64 z := (need5 hnd 3 31 (by kernel_rfl) :)
          exact s_mul _ _ 1024 z rfl rfl h0 (fun z => hK _ _ ⟨z, rfl⟩ (fun _ _ h => h) hI)
        | 5, _, _, ho =>
          obtain rfl := Option.some.inj ho
          have h0 : a'.eval (.tmp 29) = .int .i64 x1.slo := (need5 hnd 1 29 (by kernel_rfl) :)
          obtain ⟨z, h1⟩ : ∃ z : Int, a'.eval (.tmp 32) = .int .i64 z := (need5 hnd 4 32 (by kernel_rfl) :)
          exact s_add _ _ _ z rfl h0 h1 (fun z => hK _ _ ⟨z, rfl⟩ (fun _ _ h => h) hI)
        | 6, _, _, ho =>
          obtain rfl := Option.some.inj ho
          exact s_fldShi _ _ rfl hx6 (hK _ _ rfl (fun _ _ h => h) hI)
        | j + 7, hj, _, _ => omega
      · intro o ho a' v K' hx hnd hI hK
        obtain rfl := Option.some.inj ho
        have h0 : a'.eval (.tmp 30) = .pointer (some ⟨g, 0, none⟩) := (need5 hnd 2 30 (by kernel_rfl) :)
        obtain ⟨u, hu1, hu⟩ := hI
        have hu2 : u ≤ t + 261 := by simpa using hu1
        refine s_pick 30 _ _ g rfl h0 ((pickC v g A c bs u 9 (by omega) (by omega) hu.cur (by omega)).mono ?_)
        rintro e v' ⟨y, rfl, l0, l1, hc, hg⟩
        exact ⟨_, rfl, hK _ _ ⟨y, rfl⟩ (fun _ _ _ h => h) ⟨u + 1, by simp; omega, hu.kept hg hc⟩⟩
      · intro f v hf hI
        have e0 : f 0 = .pointer (some ⟨w4.heap.size, 14, none⟩) := hf (0, 28) (by decide)
        have e1 : f 1 = .int .i64 x1.slo := hf (1, 29) (by decide)
        have e2 : f 2 = .pointer (some ⟨g, 0, none⟩) := hf (2, 30) (by decide)
        obtain ⟨z3, e3⟩ : ∃ z : Int, f 3 = .int .i64 z := hf (3, 31) (by decide)
        obtain ⟨z4, e4⟩ : ∃ z : Int, f 4 = .int .i64 z := hf (4, 32) (by decide)
        obtain ⟨z5, e5⟩ : ∃ z : Int, f 5 = .int .i64 z := hf (5, 33) (by decide)
        have e6 : f 6 = .pointer (some ⟨w4.heap.size, 15, none⟩) := hf (6, 34) (by decide)
        obtain ⟨u, hu1, hu⟩ := hI
        have hu2 : u ≤ t + 262 := by simpa using hu1
        simp only [List.foldl_cons, List.foldl_nil, e0, e1, e2, e3, e4, e5, e6]
        clear e0 e1 e2 e3 e4 e5 e6 hf
        go_simp
        have DU := Lib.hid hu
        clear hu hu1
        have c15 := K.cell DU.out.row 15 _ rfl
        have f15 := frozen_of_row _ _ 15 _ _ DU.out.row
        have DV := Lib.hid (DU.out.set 15 (.int .i64 z5))
        go_wp2_with fail
        go_meet
        exact ⟨⟨x1.prio, x1.src, x1.dst, x1.proto, x1.slo, z5, x1.dlo, x1.dhi, x1.tenant, x1.weight, x1.chain⟩, u, by omega, DV⟩
  case rest =>
  obtain ⟨x9, t9, ht9, D9⟩ := hcut
  go_wp2_with fail
  refine (pickC _ g A c bs t9 4 (by omega) (by omega) D9.out.cur (by omega)).mono ?_
  rintro e w10 ⟨y10, rfl, l10, h10, hc10, hg10⟩
  have D10 := Lib.hid (D9.out.kept hg10 hc10)
  clear hc10 hg10 D9
  go_upto_block 0 with fail
  go_cut [] (fun wx => ∃ (x : Ru) (u : Nat), u ≤ t + 280 ∧ Hid (DS1 53 w g A c bs w.heap.size #[.int .i64 0, .int .i64 0, .int .i64 0, .int .i64 0, .int .i64 0, .int .i64 0, .int .i64 0, .int .i64 0, .int .i64 0, .int .i64 0, .int .i64 0, .int .i64 0, .int .i64 0, .int .i64 0, .int .i64 0, .int .i64 0, .int .i64 0, .int .i64 0, .int .i64 0, .int .i64 0, .int .i64 0] w4.heap.size #[.int .i64 x.prio, .int .i64 x.src.base.k, .int .i64 x.src.base.a, .int .i64 x.src.base.b, .int .i64 x.src.base.c, .int .i64 x.src.base.d, .int .i64 x.src.len, .int .i64 x.dst.base.k, .int .i64 x.dst.base.a, .int .i64 x.dst.base.b, .int .i64 x.dst.base.c, .int .i64 x.dst.base.d, .int .i64 x.dst.len, .int .i64 x.proto, .int .i64 x.slo, .int .i64 x.shi, .int .i64 x.dlo, .int .i64 x.dhi, .int .i64 x.tenant, .int .i64 x.weight, .int .i64 x.chain] u wx))
  case first =>
    by_cases e0 : y10 = 0
    · subst e0
      have hz10 : g < w10.heap.size := D10.out.cur.lt
      have HL10 := Lib.hid (fun (j : Nat) (h : j < 3) => lit_cell w10 [(80), (443), (53)] j h)
      go_wp2_with fail
      refine (pickC _ g A c bs (t9 + 1) 3 (by omega) (by omega) (D10.out.alloc _).cur (by omega)).mono ?_
      rintro e w11 ⟨y11, rfl, l11, h11, hc11, hg11⟩
      have D11 := Lib.hid ((D10.out.alloc _).kept hg11 hc11)
      obtain ⟨j11, rfl⟩ : ∃ q : Nat, y11 = q := ⟨y11.toNat, by omega⟩
      have j11b : (j11 : Int) < 3 := by omega
      obtain ⟨n11, hn11⟩ := HL10.out j11 (by omega)
      have hl11 : w11.cell? ⟨w10.heap.size, j11, none⟩ = some (.int .i64 n11) := lit_kept hg11 hn11 hz10
      clear hn11 HL10
      clear hc11 hg11 D10
      have c16 := K.cell D11.out.row 16 _ rfl
      have f16 := frozen_of_row _ _ 16 _ _ D11.out.row
      go_upto_region 9 with fail
      obtain ⟨x10, D12⟩ : ∃ x : Ru, Hid (DS1 53 w g A c bs w.heap.size #[.int .i64 0, .int .i64 0, .int .i64 0, .int .i64 0, .int .i64 0, .int .i64 0, .int .i64 0, .int .i64 0, .int .i64 0, .int .i64 0, .int .i64 0, .int .i64 0, .int .i64 0, .int .i64 0, .int .i64 0, .int .i64 0, .int .i64 0, .int .i64 0, .int .i64 0, .int .i64 0, .int .i64 0] w4.heap.size #[.int .i64 x.prio, .int .i64 x.src.base.k, .int .i64 x.src.base.a, .int .i64 x.src.base.b, .int .i64 x.src.base.c, .int .i64 x.src.base.d, .int .i64 x.src.len, .int .i64 x.dst.base.k, .int .i64 x.dst.base.a, .int .i64 x.dst.base.b, .int .i64 x.dst.base.c, .int .i64 x.dst.base.d, .int .i64 x.dst.len, .int .i64 x.proto, .int .i64 x.slo, .int .i64 x.shi, .int .i64 x.dlo, .int .i64 x.dhi, .int .i64 x.tenant, .int .i64 x.weight, .int .i64 x.chain] ((t9 + 1) + 1) (w11.setCell ⟨w4.heap.size, 16, none⟩ (.int .i64 n11))) := ⟨⟨x9.prio, x9.src, x9.dst, x9.proto, x9.slo, x9.shi, n11, x9.dhi, x9.tenant, x9.weight, x9.chain⟩, Lib.hid (D11.out.set 16 (.int .i64 n11))⟩
      generalize w11.setCell ⟨w4.heap.size, 16, none⟩ (.int .i64 n11) = w12 at D12 ⊢
      clear D11 hl11 c16 f16
      have c16 := K.cell D12.out.row 16 _ rfl
      have f16 := frozen_of_row _ _ 16 _ _ D12.out.row
      have c17 := K.cell D12.out.row 17 _ rfl
      have f17 := frozen_of_row _ _ 17 _ _ D12.out.row
      have DV := Lib.hid (D12.out.set 17 (.int .i64 x10.dlo))
      go_wp2_with fail
      go_meet
      exact ⟨⟨x10.prio, x10.src, x10.dst, x10.proto, x10.slo, x10.shi, x10.dlo, x10.dlo, x10.tenant, x10.weight, x10.chain⟩, ((t9 + 1) + 1), by omega, DV⟩
    · by_cases e1 : y10 = 1
      · subst e1
        have c17 := K.cell D10.out.row 17 _ rfl
        have f17 := frozen_of_row _ _ 17 _ _ D10.out.row
        have DV := Lib.hid (D10.out.set 17 (.int .i64 1023))
        go_wp2_with fail
        go_meet
        exact ⟨⟨x9.prio, x9.src, x9.dst, x9.proto, x9.slo, x9.shi, x9.dlo, 1023, x9.tenant, x9.weight, x9.chain⟩, (t9 + 1), by omega, DV⟩
      · go_wp2_with fail
        go_meet
        exact ⟨x9, (t9 + 1), by omega, D10⟩
  case rest =>
  obtain ⟨x20, t20, ht20, D20⟩ := hcut
  go_wp2_with fail
  refine (pickC _ g A c bs t20 4 (by omega) (by omega) D20.out.cur (by omega)).mono ?_
  rintro e w21 ⟨y21, rfl, l21, h21, hc21, hg21⟩
  have D21 := Lib.hid (D20.out.kept hg21 hc21)
  clear hc21 hg21 D20
  have c18 := K.cell D21.out.row 18 _ rfl
  have f18 := frozen_of_row _ _ 18 _ _ D21.out.row
  go_upto_region 13 with fail
  obtain ⟨x21, D22⟩ : ∃ x : Ru, Hid (DS1 53 w g A c bs w.heap.size #[.int .i64 0, .int .i64 0, .int .i64 0, .int .i64 0, .int .i64 0, .int .i64 0, .int .i64 0, .int .i64 0, .int .i64 0, .int .i64 0, .int .i64 0, .int .i64 0, .int .i64 0, .int .i64 0, .int .i64 0, .int .i64 0, .int .i64 0, .int .i64 0, .int .i64 0, .int .i64 0, .int .i64 0] w4.heap.size #[.int .i64 x.prio, .int .i64 x.src.base.k, .int .i64 x.src.base.a, .int .i64 x.src.base.b, .int .i64 x.src.base.c, .int .i64 x.src.base.d, .int .i64 x.src.len, .int .i64 x.dst.base.k, .int .i64 x.dst.base.a, .int .i64 x.dst.base.b, .int .i64 x.dst.base.c, .int .i64 x.dst.base.d, .int .i64 x.dst.len, .int .i64 x.proto, .int .i64 x.slo, .int .i64 x.shi, .int .i64 x.dlo, .int .i64 x.dhi, .int .i64 x.tenant, .int .i64 x.weight, .int .i64 x.chain] (t20 + 1) (w21.setCell ⟨w4.heap.size, 18, none⟩ (.int .i64 (1 + y21)))) := ⟨⟨x20.prio, x20.src, x20.dst, x20.proto, x20.slo, x20.shi, x20.dlo, x20.dhi, (1 + y21), x20.weight, x20.chain⟩, Lib.hid (D21.out.set 18 (.int .i64 (1 + y21)))⟩
  generalize w21.setCell ⟨w4.heap.size, 18, none⟩ (.int .i64 (1 + y21)) = w22 at D22 ⊢
  clear D21 c18 f18
  go_wp2_with fail
  refine (pickC _ g A c bs (t20 + 1) 10 (by omega) (by omega) D22.out.cur (by omega)).mono ?_
  rintro e w23 ⟨y23, rfl, l23, h23, hc23, hg23⟩
  have D23 := Lib.hid (D22.out.kept hg23 hc23)
  clear hc23 hg23 D22
  have c19 := K.cell D23.out.row 19 _ rfl
  have f19 := frozen_of_row _ _ 19 _ _ D23.out.row
  go_upto_region 14 with fail
  obtain ⟨x22, D24⟩ : ∃ x : Ru, Hid (DS1 53 w g A c bs w.heap.size #[.int .i64 0, .int .i64 0, .int .i64 0, .int .i64 0, .int .i64 0, .int .i64 0, .int .i64 0, .int .i64 0, .int .i64 0, .int .i64 0, .int .i64 0, .int .i64 0, .int .i64 0, .int .i64 0, .int .i64 0, .int .i64 0, .int .i64 0, .int .i64 0, .int .i64 0, .int .i64 0, .int .i64 0] w4.heap.size #[.int .i64 x.prio, .int .i64 x.src.base.k, .int .i64 x.src.base.a, .int .i64 x.src.base.b, .int .i64 x.src.base.c, .int .i64 x.src.base.d, .int .i64 x.src.len, .int .i64 x.dst.base.k, .int .i64 x.dst.base.a, .int .i64 x.dst.base.b, .int .i64 x.dst.base.c, .int .i64 x.dst.base.d, .int .i64 x.dst.len, .int .i64 x.proto, .int .i64 x.slo, .int .i64 x.shi, .int .i64 x.dlo, .int .i64 x.dhi, .int .i64 x.tenant, .int .i64 x.weight, .int .i64 x.chain] ((t20 + 1) + 1) (w23.setCell ⟨w4.heap.size, 19, none⟩ (.int .i64 (1 + y23)))) := ⟨⟨x21.prio, x21.src, x21.dst, x21.proto, x21.slo, x21.shi, x21.dlo, x21.dhi, x21.tenant, (1 + y23), x21.chain⟩, Lib.hid (D23.out.set 19 (.int .i64 (1 + y23)))⟩
  generalize w23.setCell ⟨w4.heap.size, 19, none⟩ (.int .i64 (1 + y23)) = w24 at D24 ⊢
  clear D23 c19 f19
  go_wp2_with fail
  refine (pickC _ g A c bs ((t20 + 1) + 1) 4 (by omega) (by omega) D24.out.cur (by omega)).mono ?_
  rintro e w25 ⟨y25, rfl, l25, h25, hc25, hg25⟩
  have D25 := Lib.hid (D24.out.kept hg25 hc25)
  clear hc25 hg25 D24
  have c20 := K.cell D25.out.row 20 _ rfl
  have f20 := frozen_of_row _ _ 20 _ _ D25.out.row
  go_upto_region 15 with fail
  obtain ⟨x23, D26⟩ : ∃ x : Ru, Hid (DS1 53 w g A c bs w.heap.size #[.int .i64 0, .int .i64 0, .int .i64 0, .int .i64 0, .int .i64 0, .int .i64 0, .int .i64 0, .int .i64 0, .int .i64 0, .int .i64 0, .int .i64 0, .int .i64 0, .int .i64 0, .int .i64 0, .int .i64 0, .int .i64 0, .int .i64 0, .int .i64 0, .int .i64 0, .int .i64 0, .int .i64 0] w4.heap.size #[.int .i64 x.prio, .int .i64 x.src.base.k, .int .i64 x.src.base.a, .int .i64 x.src.base.b, .int .i64 x.src.base.c, .int .i64 x.src.base.d, .int .i64 x.src.len, .int .i64 x.dst.base.k, .int .i64 x.dst.base.a, .int .i64 x.dst.base.b, .int .i64 x.dst.base.c, .int .i64 x.dst.base.d, .int .i64 x.dst.len, .int .i64 x.proto, .int .i64 x.slo, .int .i64 x.shi, .int .i64 x.dlo, .int .i64 x.dhi, .int .i64 x.tenant, .int .i64 x.weight, .int .i64 x.chain] (((t20 + 1) + 1) + 1) (w25.setCell ⟨w4.heap.size, 20, none⟩ (.int .i64 (1 + y25)))) := ⟨⟨x22.prio, x22.src, x22.dst, x22.proto, x22.slo, x22.shi, x22.dlo, x22.dhi, x22.tenant, x22.weight, (1 + y25)⟩, Lib.hid (D25.out.set 20 (.int .i64 (1 + y25)))⟩
  generalize w25.setCell ⟨w4.heap.size, 20, none⟩ (.int .i64 (1 + y25)) = w26 at D26 ⊢
  clear D25 c20 f20
  go_wp2_with (first | (with_reducible refine loadR rfl _ rfl (w4.heap.size) rfl D26.out.row ?_) | (with_reducible refine storeRu rfl _ _ rfl w.heap.size rfl rfl D26.out.res ?_))
  (try simp only [Exit.inBlock, Exit.then])
  refine bodyPost_ret (v := .agg #[.int .i64 x23.prio, .int .i64 x23.src.base.k, .int .i64 x23.src.base.a, .int .i64 x23.src.base.b, .int .i64 x23.src.base.c, .int .i64 x23.src.base.d, .int .i64 x23.src.len, .int .i64 x23.dst.base.k, .int .i64 x23.dst.base.a, .int .i64 x23.dst.base.b, .int .i64 x23.dst.base.c, .int .i64 x23.dst.base.d, .int .i64 x23.dst.len, .int .i64 x23.proto, .int .i64 x23.slo, .int .i64 x23.shi, .int .i64 x23.dlo, .int .i64 x23.dhi, .int .i64 x23.tenant, .int .i64 x23.weight, .int .i64 x23.chain]) ?_ rfl ⟨x23, (((t20 + 1) + 1) + 1), rfl, by omega, (D26.out.ended _).1, (D26.out.ended _).2⟩
  exact resRu Try.results136 _ _ w.heap.size rfl (setRow_heap _ _ _ _ _ _ D26.out.res)
end Go.Proofs.Ytdndanbalmoklaa
