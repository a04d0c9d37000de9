/-
  The draw of a rule that may be invalid: some rule.
-/
import Derived.Test.YtdndanbalmoklaaRuDraw
import Derived.Test.YtdndanbalmoklaaRegKeptL
namespace Go.Proofs.Ytdndanbalmoklaa
set_option maxRecDepth 100000
open Go.RowKit

section
variable {o : Oper} {a : Act} {w : World} {K : Act → World → Prop} {Q : Exit → Act → World → Prop}
theorem u_rawR (x : Operand) (x0 : Value) (ts : Array TypeId) (ho : o.op = .call { callee := .value (.func 137), args := #[x], argTypes := ts }) (h0 : a.eval x = x0)
    (h : Calls Try.prog 137 #[x0] w fun e w' => ∃ v, e = .returned v ∧ K (a.put o.dst v) w') : o.wp Try.prog a w K Q := by
  unfold Oper.wp execOp
  simp only [ho, resolve, List.map_toArray, List.map_cons, List.map_nil, h0, show ∀ f, a.eval (.func f) = .func (.func f) #[] #[] from fun _ => rfl]
  go_simp
  exact h.mono fun e w' ⟨u, he, hk⟩ => by subst he; exact hk
end

def GR10 (g b : Nat) (j : Nat) (w : World) (v : Value) : Prop := match j with
  | 0 => v = .pointer (some ⟨g, 0, none⟩)
  | 2 => v = .pointer (some ⟨b, 15, none⟩)
  | 5 => ∃ q m0 m1, v = .slice (some ⟨q, 0, none⟩) 2 2 ∧ q ≠ g ∧ q ≠ b ∧ w.heap[q]? = some (.cells #[.int .i64 m0, .int .i64 m1] 3 (0, 0))
  | 6 => v = .pointer (some ⟨g, 0, none⟩)
  | 7 => ∃ y : Nat, v = .int .i64 (y : Int) ∧ y < 2
  | 8 => ∃ (q y : Nat) (m0 m1 : Int), v = .pointer (some ⟨q, y, none⟩) ∧ y < 2 ∧ q ≠ g ∧ q ≠ b ∧ w.heap[q]? = some (.cells #[.int .i64 m0, .int .i64 m1] 3 (0, 0))
  | 10 => v = .pointer (some ⟨b, 14, none⟩)
  | 11 => True
  | _ => ∃ z : Int, v = .int .i64 z
/-- All blocks but two have kept. -/
def Kept2 (g b : Nat) (w w' : World) : Prop := ∀ q, q ≠ g → q ≠ b → q < w.heap.size → w'.heap[q]? = w.heap[q]?
theorem GR10.on {g b : Nat} (j : Nat) (w w' : World) (v : Value) (h : Kept2 g b w w') (k : GR10 g b j w v) : GR10 g b j w' v := by
  unfold GR10 at k ⊢
  split <;> simp only at k ⊢
  all_goals first
    | exact k
    | (obtain ⟨q, m0, m1, e, h1, h2, h3⟩ := k; exact ⟨q, m0, m1, e, h1, h2, (h q h1 h2 (K.lt h3)).trans h3⟩)
    | (obtain ⟨q, y, m0, m1, e, hy, h1, h2, h3⟩ := k; exact ⟨q, y, m0, m1, e, hy, h1, h2, (h q h1 h2 (K.lt h3)).trans h3⟩)
theorem kept2_refl (g b : Nat) (w : World) : Kept2 g b w w := fun _ _ _ _ => rfl
theorem kept2_grown {g b : Nat} {w w' : World} {q : Nat} (hq : q = g ∨ q = b) (h : w.grownBy w' (some q)) : Kept2 g b w w' := fun k h1 h2 hk => h.block k hk (fun e => by have := Option.some.inj e; omega)
theorem kept2_alloc {g b : Nat} {w : World} (o : Obj) : Kept2 g b w (w.alloc o) := fun k _ _ hk => Below.heap_alloc w o k hk
theorem need10 {g b : Nat} {ops : Array Oper} {w : World} {a : Act} {j : Nat} (h : ∀ q ∈ needOf ops j, GR10 g b q.1 w (a.tmps.getD q.2 undef)) (i d : Nat) (hm : (needOf ops j).contains (i, d) = true) : GR10 g b i w (a.eval (.tmp d)) :=
  h (i, d) (by simpa using hm)

set_option maxHeartbeats 8000000 in
theorem badRuleD (w : World) (g : Nat) (A : Option Addr) (c : Nat) (bs : List UInt8) (t : Nat) (hc : Cur w g A c bs t) (ht : t ≤ 400000000000) :
    Calls Try.prog 87 #[.pointer (some ⟨g, 0, none⟩)] w (RuDrawn w g A c bs (t + 1000)) := by
  have hgw := hc.lt
  have D0 : Hid (DS0 53 w g A c bs w.heap.size #[.int .i64 0, .int .i64 0, .int .i64 0, .int .i64 0, .int .i64 0, .int .i64 0, .int .i64 0, .int .i64 0, .int .i64 0, .int .i64 0, .int .i64 0, .int .i64 0, .int .i64 0, .int .i64 0, .int .i64 0, .int .i64 0, .int .i64 0, .int .i64 0, .int .i64 0, .int .i64 0, .int .i64 0] t (w.alloc (.cells #[.int .i64 0, .int .i64 0, .int .i64 0, .int .i64 0, .int .i64 0, .int .i64 0, .int .i64 0, .int .i64 0, .int .i64 0, .int .i64 0, .int .i64 0, .int .i64 0, .int .i64 0, .int .i64 0, .int .i64 0, .int .i64 0, .int .i64 0, .int .i64 0, .int .i64 0, .int .i64 0, .int .i64 0] 53))) := Lib.hid ⟨hc.below (Joins.below_alloc1 w _), only_new (grown_refl w (some g)) _, K.new w _, ⟨hc.lt, Nat.le_refl _⟩⟩
  clear hc
  go_enter Try.func87, Try.ntmps87
  go_wp2_with fail
  refine (pickC _ g A c bs t 20 (by omega) (by omega) D0.out.cur (by omega)).mono ?_
  rintro e w1 ⟨y1, rfl, l1, h1, hc1, hg1⟩
  have D1 := Lib.hid (D0.out.kept hg1 hc1)
  clear hc1 hg1 D0
  go_wp2_with fail
  refine (ruleD _ g A c bs (t + 1) (1 + y1) D1.out.cur (by omega)).mono ?_
  rintro e w2 ⟨r2, t2, rfl, ht2, hc2, hg2⟩
  have D2 := Lib.hid (D1.out.kept hg2 hc2)
  clear hc2 hg2 D1
  go_upto_region 2 with (with_reducible refine storeNewRu rfl _ _ rfl rfl rfl ?_)
  obtain ⟨x0, D2m⟩ : ∃ x : Ru, Hid (DS1 53 w g A c bs w.heap.size #[.int .i64 0, .int .i64 0, .int .i64 0, .int .i64 0, .int .i64 0, .int .i64 0, .int .i64 0, .int .i64 0, .int .i64 0, .int .i64 0, .int .i64 0, .int .i64 0, .int .i64 0, .int .i64 0, .int .i64 0, .int .i64 0, .int .i64 0, .int .i64 0, .int .i64 0, .int .i64 0, .int .i64 0] w2.heap.size #[.int .i64 x.prio, .int .i64 x.src.base.k, .int .i64 x.src.base.a, .int .i64 x.src.base.b, .int .i64 x.src.base.c, .int .i64 x.src.base.d, .int .i64 x.src.len, .int .i64 x.dst.base.k, .int .i64 x.dst.base.a, .int .i64 x.dst.base.b, .int .i64 x.dst.base.c, .int .i64 x.dst.base.d, .int .i64 x.dst.len, .int .i64 x.proto, .int .i64 x.slo, .int .i64 x.shi, .int .i64 x.dlo, .int .i64 x.dhi, .int .i64 x.tenant, .int .i64 x.weight, .int .i64 x.chain] t2 (w2.alloc (.cells #[.int .i64 r2.prio, .int .i64 r2.src.base.k, .int .i64 r2.src.base.a, .int .i64 r2.src.base.b, .int .i64 r2.src.base.c, .int .i64 r2.src.base.d, .int .i64 r2.src.len, .int .i64 r2.dst.base.k, .int .i64 r2.dst.base.a, .int .i64 r2.dst.base.b, .int .i64 r2.dst.base.c, .int .i64 r2.dst.base.d, .int .i64 r2.dst.len, .int .i64 r2.proto, .int .i64 r2.slo, .int .i64 r2.shi, .int .i64 r2.dlo, .int .i64 r2.dhi, .int .i64 r2.tenant, .int .i64 r2.weight, .int .i64 r2.chain] 53))) := ⟨r2, Lib.hid (D2.out.made _)⟩
  have BB : Hid (w2.heap.size = w2.heap.size) := Lib.hid rfl
  skip
  generalize w2.alloc (.cells #[.int .i64 r2.prio, .int .i64 r2.src.base.k, .int .i64 r2.src.base.a, .int .i64 r2.src.base.b, .int .i64 r2.src.base.c, .int .i64 r2.src.base.d, .int .i64 r2.src.len, .int .i64 r2.dst.base.k, .int .i64 r2.dst.base.a, .int .i64 r2.dst.base.b, .int .i64 r2.dst.base.c, .int .i64 r2.dst.base.d, .int .i64 r2.dst.len, .int .i64 r2.proto, .int .i64 r2.slo, .int .i64 r2.shi, .int .i64 r2.dlo, .int .i64 r2.dhi, .int .i64 r2.tenant, .int .i64 r2.weight, .int .i64 r2.chain] 53) = w3 at D2m ⊢
  have D3 := D2m
  clear D2m D2 BB 
  go_wp2_with fail
  refine (pickC _ g A c bs t2 14 (by omega) (by omega) D3.out.cur (by omega)).mono ?_
  rintro e w4 ⟨y4, rfl, l4, h4, hc4, hg4⟩
  have D4 := Lib.hid (D3.out.kept hg4 hc4)
  clear hc4 hg4 D3
  go_upto_block 0 with fail
  go_cut [] (fun wx => ∃ (x : Ru) (u : Nat), u ≤ t + 1000 ∧ Hid (DS1 53 w g A c bs w.heap.size #[.int .i64 0, .int .i64 0, .int .i64 0, .int .i64 0, .int .i64 0, .int .i64 0, .int .i64 0, .int .i64 0, .int .i64 0, .int .i64 0, .int .i64 0, .int .i64 0, .int .i64 0, .int .i64 0, .int .i64 0, .int .i64 0, .int .i64 0, .int .i64 0, .int .i64 0, .int .i64 0, .int .i64 0] w2.heap.size #[.int .i64 x.prio, .int .i64 x.src.base.k, .int .i64 x.src.base.a, .int .i64 x.src.base.b, .int .i64 x.src.base.c, .int .i64 x.src.base.d, .int .i64 x.src.len, .int .i64 x.dst.base.k, .int .i64 x.dst.base.a, .int .i64 x.dst.base.b, .int .i64 x.dst.base.c, .int .i64 x.dst.base.d, .int .i64 x.dst.len, .int .i64 x.proto, .int .i64 x.slo, .int .i64 x.shi, .int .i64 x.dlo, .int .i64 x.dhi, .int .i64 x.tenant, .int .i64 x.weight, .int .i64 x.chain] u wx))
  case first =>
    by_cases e0 : y4 = 0
    · subst e0
      go_wp2_with fail
      refine (rawC _ g A c bs (t2 + 1) D4.out.cur (by omega)).mono ?_
      rintro e w5 ⟨z5, rfl, _, hc5, hg5⟩
      have D5 := Lib.hid (D4.out.kept hg5 hc5)
      clear hc5 hg5 D4
      have hz5 : g < w5.heap.size := D5.out.cur.lt
      have HL5 := Lib.hid (fun (j : Nat) (h : j < 3) => lit_cell w5 [(z5), (9999), (10000)] j h)
      go_wp2_with fail
      refine (pickC _ g A c bs ((t2 + 1) + 2) 3 (by omega) (by omega) (D5.out.alloc _).cur (by omega)).mono ?_
      rintro e w6 ⟨y6, rfl, l6, h6, hc6, hg6⟩
      have D6 := Lib.hid ((D5.out.alloc _).kept hg6 hc6)
      obtain ⟨j6, rfl⟩ : ∃ q : Nat, y6 = q := ⟨y6.toNat, by omega⟩
      have j6b : (j6 : Int) < 3 := by omega
      obtain ⟨n6, hn6⟩ := HL5.out j6 (by omega)
      have hl6 : w6.cell? ⟨w5.heap.size, j6, none⟩ = some (.int .i64 n6) := lit_kept hg6 hn6 hz5
      clear hn6 HL5
      clear hc6 hg6 D5
      have c0 := K.cell D6.out.row 0 _ rfl
      have f0 := frozen_of_row _ _ 0 _ _ D6.out.row
      have DV := Lib.hid (D6.out.set 0 (.int .i64 n6))
      go_wp2_with fail
      go_meet
      exact ⟨⟨n6, x0.src, x0.dst, x0.proto, x0.slo, x0.shi, x0.dlo, x0.dhi, x0.tenant, x0.weight, x0.chain⟩, (((t2 + 1) + 2) + 1), by omega, DV⟩
    · by_cases e1 : y4 = 1
      · subst e1
        go_wp2_with fail
        refine (badPrefixC _ g A c bs (t2 + 1) D4.out.cur (by omega)).mono ?_
        rintro e w5 ⟨p5, t5, rfl, ht5, hc5, hg5⟩
        have D5 := Lib.hid (D4.out.kept hg5 hc5)
        clear hc5 hg5 D4
        have c1 := K.cell D5.out.row 1 _ rfl
        have f1 := frozen_of_row _ _ 1 _ _ D5.out.row
        have c2 := K.cell D5.out.row 2 _ rfl
        have f2 := frozen_of_row _ _ 2 _ _ D5.out.row
        have c3 := K.cell D5.out.row 3 _ rfl
        have f3 := frozen_of_row _ _ 3 _ _ D5.out.row
        have c4 := K.cell D5.out.row 4 _ rfl
        have f4 := frozen_of_row _ _ 4 _ _ D5.out.row
        have c5 := K.cell D5.out.row 5 _ rfl
        have f5 := frozen_of_row _ _ 5 _ _ D5.out.row
        have c6 := K.cell D5.out.row 6 _ rfl
        have f6 := frozen_of_row _ _ 6 _ _ D5.out.row
        have DV := Lib.hid ((((((D5.out.set 1 (.int .i64 p5.base.k)).set 2 (.int .i64 p5.base.a)).set 3 (.int .i64 p5.base.b)).set 4 (.int .i64 p5.base.c)).set 5 (.int .i64 p5.base.d)).set 6 (.int .i64 p5.len))
        go_wp2_with fail
        go_meet
        exact ⟨⟨x0.prio, ⟨⟨p5.base.k, p5.base.a, p5.base.b, p5.base.c, p5.base.d⟩, p5.len⟩, x0.dst, x0.proto, x0.slo, x0.shi, x0.dlo, x0.dhi, x0.tenant, x0.weight, x0.chain⟩, t5, by omega, DV⟩
      · by_cases e2 : y4 = 2
        · subst e2
          go_wp2_with fail
          refine (rawC _ g A c bs (t2 + 1) D4.out.cur (by omega)).mono ?_
          rintro e w5 ⟨z5, rfl, _, hc5, hg5⟩
          have D5 := Lib.hid (D4.out.kept hg5 hc5)
          clear hc5 hg5 D4
          have hz5 : g < w5.heap.size := D5.out.cur.lt
          have HL5 := Lib.hid (fun (j : Nat) (h : j < 4) => lit_cell w5 [(z5), (255), (256), (-2)] j h)
          go_wp2_with fail
          refine (pickC _ g A c bs ((t2 + 1) + 2) 4 (by omega) (by omega) (D5.out.alloc _).cur (by omega)).mono ?_
          rintro e w6 ⟨y6, rfl, l6, h6, hc6, hg6⟩
          have D6 := Lib.hid ((D5.out.alloc _).kept hg6 hc6)
          obtain ⟨j6, rfl⟩ : ∃ q : Nat, y6 = q := ⟨y6.toNat, by omega⟩
          have j6b : (j6 : Int) < 4 := by omega
          obtain ⟨n6, hn6⟩ := HL5.out j6 (by omega)
          have hl6 : w6.cell? ⟨w5.heap.size, j6, none⟩ = some (.int .i64 n6) := lit_kept hg6 hn6 hz5
          clear hn6 HL5
          clear hc6 hg6 D5
          have c13 := K.cell D6.out.row 13 _ rfl
          have f13 := frozen_of_row _ _ 13 _ _ D6.out.row
          have DV := Lib.hid (D6.out.set 13 (.int .i64 n6))
          go_wp2_with fail
          go_meet
          exact ⟨⟨x0.prio, x0.src, x0.dst, n6, x0.slo, x0.shi, x0.dlo, x0.dhi, x0.tenant, x0.weight, x0.chain⟩, (((t2 + 1) + 2) + 1), by omega, DV⟩
        · by_cases e3 : y4 = 3
          · subst e3
            have hgb : w2.heap.size ≠ g := by have h1 := D4.out.far; have h2 := D4.out.off; omega
            go_wp2_with fail
            refine wp_region_keptL (by kernel_rfl) (GR10 g w2.heap.size) [0, 3] (fun k v => ∃ (x : Ru) (u : Nat), u ≤ (t2 + 1) + 3 * k ∧ DS1 53 w g A c bs w.heap.size #[.int .i64 0, .int .i64 0, .int .i64 0, .int .i64 0, .int .i64 0, .int .i64 0, .int .i64 0, .int .i64 0, .int .i64 0, .int .i64 0, .int .i64 0, .int .i64 0, .int .i64 0, .int .i64 0, .int .i64 0, .int .i64 0, .int .i64 0, .int .i64 0, .int .i64 0, .int .i64 0, .int .i64 0] w2.heap.size #[.int .i64 x.prio, .int .i64 x.src.base.k, .int .i64 x.src.base.a, .int .i64 x.src.base.b, .int .i64 x.src.base.c, .int .i64 x.src.base.d, .int .i64 x.src.len, .int .i64 x.dst.base.k, .int .i64 x.dst.base.a, .int .i64 x.dst.base.b, .int .i64 x.dst.base.c, .int .i64 x.dst.base.d, .int .i64 x.dst.len, .int .i64 x.proto, .int .i64 x.slo, .int .i64 x.shi, .int .i64 x.dlo, .int .i64 x.dhi, .int .i64 x.tenant, .int .i64 x.weight, .int .i64 x.chain] u v) (Kept2 g w2.heap.size) 90 [(0, 38), (1, 39), (2, 40), (3, 41), (4, 42), (5, 43), (6, 44), (7, 45), (8, 46), (9, 47), (10, 48)] (by kernel_rfl) (by kernel_rfl) rfl ⟨x0, (t2 + 1), by omega, D4.out.drew⟩ GR10.on ?_ ?_
            · intro j o ho k a' v K' hx hnd hk hI hK
              have hk12 : k < 12 := hk
              have hx0 : a'.eval (.tmp 0) = .pointer (some ⟨g, 0, none⟩) := (hx 0 (by decide)).trans rfl
              have hx3 : a'.eval (.tmp 3) = .pointer (some ⟨w2.heap.size, 0, none⟩) := (hx 3 (by decide)).trans rfl
              match j, ho with
              | 0, ho =>
                obtain rfl := Option.some.inj ho
                obtain ⟨x, u, hu1, hu⟩ := hI
                exact s_move _ _ rfl hx0 (hK _ _ rfl (kept2_refl _ _ _) ⟨x, u, by omega, hu⟩)
              | 1, ho =>
                obtain rfl := Option.some.inj ho
                have h0 : a'.eval (.tmp 38) = .pointer (some ⟨g, 0, none⟩) := (need10 hnd 0 38 (by kernel_rfl) :)
                obtain ⟨x, u, hu1, hu⟩ := hI
                refine u_rawR _ _ _ rfl h0 ((rawC v g A c bs u hu.cur (by omega)).mono ?_)
                rintro e v' ⟨z, rfl, _, hc, hg⟩
                exact ⟨_, rfl, hK _ _ ⟨z, rfl⟩ (kept2_grown (.inl rfl) hg) ⟨x, u + 2, by omega, hu.kept hg hc⟩⟩
              | 2, ho =>
                obtain rfl := Option.some.inj ho
                obtain ⟨x, u, hu1, hu⟩ := hI
                exact s_fldShi _ _ rfl hx3 (hK _ _ rfl (kept2_refl _ _ _) ⟨x, u, by omega, hu⟩)
              | 3, ho =>
                obtain rfl := Option.some.inj ho
                have h0 : a'.eval (.tmp 40) = .pointer (some ⟨w2.heap.size, 15, none⟩) := (need10 hnd 2 40 (by kernel_rfl) :)
                obtain ⟨x, u, hu1, hu⟩ := hI
                exact s_load _ _ 15 _ rfl h0 (K.cell hu.row 15 _ rfl) (hK _ _ ⟨_, rfl⟩ (kept2_refl _ _ _) ⟨x, u, by omega, hu⟩)
              | 4, ho =>
                obtain rfl := Option.some.inj ho
                obtain ⟨z, h0⟩ : ∃ z : Int, a'.eval (.tmp 41) = .int .i64 z := (need10 hnd 3 41 (by kernel_rfl) :)
                obtain ⟨x, u, hu1, hu⟩ := hI
                exact s_add _ _ z 1 rfl h0 rfl (fun z2 => hK _ _ ⟨z2, rfl⟩ (kept2_refl _ _ _) ⟨x, u, by omega, hu⟩)
              | 5, ho =>
                obtain rfl := Option.some.inj ho
                obtain ⟨z0, h0⟩ : ∃ z : Int, a'.eval (.tmp 39) = .int .i64 z := (need10 hnd 1 39 (by kernel_rfl) :)
                obtain ⟨z1, h1⟩ : ∃ z : Int, a'.eval (.tmp 42) = .int .i64 z := (need10 hnd 4 42 (by kernel_rfl) :)
                obtain ⟨x, u, hu1, hu⟩ := hI
                exact s_row2 _ _ z0 z1 rfl h0 h1 (hK _ _ ⟨v.heap.size, z0, z1, rfl, by have := hu.cur.lt; omega, by have := K.lt hu.row; omega, K.new v _⟩ (kept2_alloc _) ⟨x, u, by omega, hu.alloc _⟩)
              | 6, ho =>
                obtain rfl := Option.some.inj ho
                obtain ⟨x, u, hu1, hu⟩ := hI
                exact s_move _ _ rfl hx0 (hK _ _ rfl (kept2_refl _ _ _) ⟨x, u, by omega, hu⟩)
              | 7, ho =>
                obtain rfl := Option.some.inj ho
                have h0 : a'.eval (.tmp 44) = .pointer (some ⟨g, 0, none⟩) := (need10 hnd 6 44 (by kernel_rfl) :)
                obtain ⟨x, u, hu1, hu⟩ := hI
                refine s_pick 44 _ _ g rfl h0 ((pickC v g A c bs u 2 (by omega) (by omega) hu.cur (by omega)).mono ?_)
                rintro e v' ⟨y, rfl, l0, l1, hc, hg⟩
                exact ⟨_, rfl, hK _ _ ⟨y.toNat, by rw [Int.toNat_of_nonneg l0], by omega⟩ (kept2_grown (.inl rfl) hg) ⟨x, u + 1, by omega, hu.kept hg hc⟩⟩
              | 8, ho =>
                obtain rfl := Option.some.inj ho
                obtain ⟨q, m0, m1, h0, q1, q2, q3⟩ : ∃ q m0 m1, a'.eval (.tmp 43) = .slice (some ⟨q, 0, none⟩) 2 2 ∧ q ≠ g ∧ q ≠ w2.heap.size ∧ v.heap[q]? = some (.cells #[.int .i64 m0, .int .i64 m1] 3 (0, 0)) := (need10 hnd 5 43 (by kernel_rfl) :)
                obtain ⟨y, h1, y2⟩ : ∃ y : Nat, a'.eval (.tmp 45) = .int .i64 (y : Int) ∧ y < 2 := (need10 hnd 7 45 (by kernel_rfl) :)
                obtain ⟨x, u, hu1, hu⟩ := hI
                exact s_idx _ _ q 2 y rfl h0 h1 (by omega) (hK _ _ ⟨q, y, m0, m1, rfl, y2, q1, q2, q3⟩ (kept2_refl _ _ _) ⟨x, u, by omega, hu⟩)
              | 9, ho =>
                obtain rfl := Option.some.inj ho
                obtain ⟨q, y, m0, m1, h0, y2, q1, q2, q3⟩ : ∃ (q y : Nat) (m0 m1 : Int), a'.eval (.tmp 46) = .pointer (some ⟨q, y, none⟩) ∧ y < 2 ∧ q ≠ g ∧ q ≠ w2.heap.size ∧ v.heap[q]? = some (.cells #[.int .i64 m0, .int .i64 m1] 3 (0, 0)) := (need10 hnd 8 46 (by kernel_rfl) :)
                obtain ⟨x, u, hu1, hu⟩ := hI
                obtain ⟨z, hz⟩ : ∃ z : Int, v.cell? ⟨q, y, none⟩ = some (.int .i64 z) := by
                  rw [cell_of_row v q y _ _ (0, 0) q3]
                  match y, y2 with
                  | 0, _ => exact ⟨_, rfl⟩
                  | 1, _ => exact ⟨_, rfl⟩
                exact s_load _ q y _ rfl h0 hz (hK _ _ ⟨z, rfl⟩ (kept2_refl _ _ _) ⟨x, u, by omega, hu⟩)
              | 10, ho =>
                obtain rfl := Option.some.inj ho
                obtain ⟨x, u, hu1, hu⟩ := hI
                exact s_fldSlo _ _ rfl hx3 (hK _ _ rfl (kept2_refl _ _ _) ⟨x, u, by omega, hu⟩)
              | 11, ho =>
                obtain rfl := Option.some.inj ho
                have h0 : a'.eval (.tmp 48) = .pointer (some ⟨w2.heap.size, 14, none⟩) := (need10 hnd 10 48 (by kernel_rfl) :)
                obtain ⟨z, h1⟩ : ∃ z : Int, a'.eval (.tmp 47) = .int .i64 z := (need10 hnd 9 47 (by kernel_rfl) :)
                obtain ⟨x, u, hu1, hu⟩ := hI
                exact s_storeI _ _ w2.heap.size 14 z _ rfl h0 h1 (K.cell hu.row 14 _ rfl) (frozen_of_row _ _ 14 _ _ hu.row) (hK undef _ trivial (kept2_grown (.inr rfl) (grownBy_set v w2.heap.size 14 _)) ⟨{ x with slo := z }, u, by omega, hu.set 14 (.int .i64 z)⟩)
              | j + 12, ho => simp at ho
            · intro f v hf hI
              have e0 : f 0 = .pointer (some ⟨g, 0, none⟩) := hf (0, 38) (by decide)
              have e2 : f 2 = .pointer (some ⟨w2.heap.size, 15, none⟩) := hf (2, 40) (by decide)
              have e6 : f 6 = .pointer (some ⟨g, 0, none⟩) := hf (6, 44) (by decide)
              have e10 : f 10 = .pointer (some ⟨w2.heap.size, 14, none⟩) := hf (10, 48) (by decide)
              obtain ⟨z1, e1⟩ : ∃ z : Int, f 1 = .int .i64 z := hf (1, 39) (by decide)
              obtain ⟨z3, e3⟩ : ∃ z : Int, f 3 = .int .i64 z := hf (3, 41) (by decide)
              obtain ⟨z4, e4⟩ : ∃ z : Int, f 4 = .int .i64 z := hf (4, 42) (by decide)
              obtain ⟨z9, e9⟩ : ∃ z : Int, f 9 = .int .i64 z := hf (9, 47) (by decide)
              obtain ⟨x, u, hu1, hu⟩ := hI
              have hu2 : u ≤ (t2 + 1) + 36 := hu1
              simp only [List.foldl_cons, List.foldl_nil, e0, e2, e6, e10, e1, e3, e4, e9]
              clear e0 e2 e6 e10 e1 e3 e4 e9 hf
              generalize f 5 = v5
              generalize f 7 = v7
              generalize f 8 = v8
              have DV := Lib.hid hu
              clear hu hu1
              go_simp
              go_wp2_with fail
              go_meet
              exact ⟨x, u, by omega, DV⟩
          · by_cases e4 : y4 = 4
            · subst e4
              go_wp2_with fail
              refine (rawC _ g A c bs (t2 + 1) D4.out.cur (by omega)).mono ?_
              rintro e w5 ⟨z5, rfl, _, hc5, hg5⟩
              have D5 := Lib.hid (D4.out.kept hg5 hc5)
              clear hc5 hg5 D4
              have hz5 : g < w5.heap.size := D5.out.cur.lt
              have HL5 := Lib.hid (fun (j : Nat) (h : j < 2) => lit_cell w5 [(z5), (65536)] j h)
              go_wp2_with fail
              refine (pickC _ g A c bs ((t2 + 1) + 2) 2 (by omega) (by omega) (D5.out.alloc _).cur (by omega)).mono ?_
              rintro e w6 ⟨y6, rfl, l6, h6, hc6, hg6⟩
              have D6 := Lib.hid ((D5.out.alloc _).kept hg6 hc6)
              obtain ⟨j6, rfl⟩ : ∃ q : Nat, y6 = q := ⟨y6.toNat, by omega⟩
              have j6b : (j6 : Int) < 2 := by omega
              obtain ⟨n6, hn6⟩ := HL5.out j6 (by omega)
              have hl6 : w6.cell? ⟨w5.heap.size, j6, none⟩ = some (.int .i64 n6) := lit_kept hg6 hn6 hz5
              clear hn6 HL5
              clear hc6 hg6 D5
              have c17 := K.cell D6.out.row 17 _ rfl
              have f17 := frozen_of_row _ _ 17 _ _ D6.out.row
              have DV := Lib.hid (D6.out.set 17 (.int .i64 n6))
              go_wp2_with fail
              go_meet
              exact ⟨⟨x0.prio, x0.src, x0.dst, x0.proto, x0.slo, x0.shi, x0.dlo, n6, x0.tenant, x0.weight, x0.chain⟩, (((t2 + 1) + 2) + 1), by omega, DV⟩
            · by_cases e5 : y4 = 5
              · subst e5
                go_wp2_with fail
                refine (rawC _ g A c bs (t2 + 1) D4.out.cur (by omega)).mono ?_
                rintro e w5 ⟨z5, rfl, _, hc5, hg5⟩
                have D5 := Lib.hid (D4.out.kept hg5 hc5)
                clear hc5 hg5 D4
                have hz5 : g < w5.heap.size := D5.out.cur.lt
                have HL5 := Lib.hid (fun (j : Nat) (h : j < 3) => lit_cell w5 [(z5), (8), (9)] j h)
                go_wp2_with fail
                refine (pickC _ g A c bs ((t2 + 1) + 2) 3 (by omega) (by omega) (D5.out.alloc _).cur (by omega)).mono ?_
                rintro e w6 ⟨y6, rfl, l6, h6, hc6, hg6⟩
                have D6 := Lib.hid ((D5.out.alloc _).kept hg6 hc6)
                obtain ⟨j6, rfl⟩ : ∃ q : Nat, y6 = q := ⟨y6.toNat, by omega⟩
                have j6b : (j6 : Int) < 3 := by omega
                obtain ⟨n6, hn6⟩ := HL5.out j6 (by omega)
                have hl6 : w6.cell? ⟨w5.heap.size, j6, none⟩ = some (.int .i64 n6) := lit_kept hg6 hn6 hz5
                clear hn6 HL5
                clear hc6 hg6 D5
                have c18 := K.cell D6.out.row 18 _ rfl
                have f18 := frozen_of_row _ _ 18 _ _ D6.out.row
                have DV := Lib.hid (D6.out.set 18 (.int .i64 n6))
                go_wp2_with fail
                go_meet
                exact ⟨⟨x0.prio, x0.src, x0.dst, x0.proto, x0.slo, x0.shi, x0.dlo, x0.dhi, n6, x0.weight, x0.chain⟩, (((t2 + 1) + 2) + 1), by omega, DV⟩
              · by_cases e6 : y4 = 6
                · subst e6
                  go_wp2_with fail
                  refine (rawC _ g A c bs (t2 + 1) D4.out.cur (by omega)).mono ?_
                  rintro e w5 ⟨z5, rfl, _, hc5, hg5⟩
                  have D5 := Lib.hid (D4.out.kept hg5 hc5)
                  clear hc5 hg5 D4
                  have hz5 : g < w5.heap.size := D5.out.cur.lt
                  have HL5 := Lib.hid (fun (j : Nat) (h : j < 2) => lit_cell w5 [(z5), (11)] j h)
                  go_wp2_with fail
                  refine (pickC _ g A c bs ((t2 + 1) + 2) 2 (by omega) (by omega) (D5.out.alloc _).cur (by omega)).mono ?_
                  rintro e w6 ⟨y6, rfl, l6, h6, hc6, hg6⟩
                  have D6 := Lib.hid ((D5.out.alloc _).kept hg6 hc6)
                  obtain ⟨j6, rfl⟩ : ∃ q : Nat, y6 = q := ⟨y6.toNat, by omega⟩
                  have j6b : (j6 : Int) < 2 := by omega
                  obtain ⟨n6, hn6⟩ := HL5.out j6 (by omega)
                  have hl6 : w6.cell? ⟨w5.heap.size, j6, none⟩ = some (.int .i64 n6) := lit_kept hg6 hn6 hz5
                  clear hn6 HL5
                  clear hc6 hg6 D5
                  have c19 := K.cell D6.out.row 19 _ rfl
                  have f19 := frozen_of_row _ _ 19 _ _ D6.out.row
                  have DV := Lib.hid (D6.out.set 19 (.int .i64 n6))
                  go_wp2_with fail
                  go_meet
                  exact ⟨⟨x0.prio, x0.src, x0.dst, x0.proto, x0.slo, x0.shi, x0.dlo, x0.dhi, x0.tenant, n6, x0.chain⟩, (((t2 + 1) + 2) + 1), by omega, DV⟩
                · by_cases e7 : y4 = 7
                  · subst e7
                    go_wp2_with fail
                    refine (rawC _ g A c bs (t2 + 1) D4.out.cur (by omega)).mono ?_
                    rintro e w5 ⟨z5, rfl, _, hc5, hg5⟩
                    have D5 := Lib.hid (D4.out.kept hg5 hc5)
                    clear hc5 hg5 D4
                    have hz5 : g < w5.heap.size := D5.out.cur.lt
                    have HL5 := Lib.hid (fun (j : Nat) (h : j < 3) => lit_cell w5 [(z5), (8), (9)] j h)
                    go_wp2_with fail
                    refine (pickC _ g A c bs ((t2 + 1) + 2) 3 (by omega) (by omega) (D5.out.alloc _).cur (by omega)).mono ?_
                    rintro e w6 ⟨y6, rfl, l6, h6, hc6, hg6⟩
                    have D6 := Lib.hid ((D5.out.alloc _).kept hg6 hc6)
                    obtain ⟨j6, rfl⟩ : ∃ q : Nat, y6 = q := ⟨y6.toNat, by omega⟩
                    have j6b : (j6 : Int) < 3 := by omega
                    obtain ⟨n6, hn6⟩ := HL5.out j6 (by omega)
                    have hl6 : w6.cell? ⟨w5.heap.size, j6, none⟩ = some (.int .i64 n6) := lit_kept hg6 hn6 hz5
                    clear hn6 HL5
                    clear hc6 hg6 D5
                    have c20 := K.cell D6.out.row 20 _ rfl
                    have f20 := frozen_of_row _ _ 20 _ _ D6.out.row
                    have DV := Lib.hid (D6.out.set 20 (.int .i64 n6))
                    go_wp2_with fail
                    go_meet
                    exact ⟨⟨x0.prio, x0.src, x0.dst, x0.proto, x0.slo, x0.shi, x0.dlo, x0.dhi, x0.tenant, x0.weight, n6⟩, (((t2 + 1) + 2) + 1), by omega, DV⟩
                  · go_wp2_with fail
                    go_meet
                    exact ⟨x0, (t2 + 1), by omega, D4⟩
  case rest =>
  obtain ⟨x30, t30, ht30, D30⟩ := hcut
  go_wp2_with (first | (with_reducible refine loadR rfl _ rfl (w2.heap.size) rfl D30.out.row ?_) | (with_reducible refine storeRu rfl _ _ rfl w.heap.size rfl rfl D30.out.res ?_))
  (try simp only [Exit.inBlock, Exit.then])
  refine bodyPost_ret (v := .agg #[.int .i64 x30.prio, .int .i64 x30.src.base.k, .int .i64 x30.src.base.a, .int .i64 x30.src.base.b, .int .i64 x30.src.base.c, .int .i64 x30.src.base.d, .int .i64 x30.src.len, .int .i64 x30.dst.base.k, .int .i64 x30.dst.base.a, .int .i64 x30.dst.base.b, .int .i64 x30.dst.base.c, .int .i64 x30.dst.base.d, .int .i64 x30.dst.len, .int .i64 x30.proto, .int .i64 x30.slo, .int .i64 x30.shi, .int .i64 x30.dlo, .int .i64 x30.dhi, .int .i64 x30.tenant, .int .i64 x30.weight, .int .i64 x30.chain]) ?_ rfl ⟨x30, t30, rfl, by omega, (D30.out.ended _).1, (D30.out.ended _).2⟩
  exact resRu Try.results87 _ _ w.heap.size rfl (setRow_heap _ _ _ _ _ _ D30.out.res)
end Go.Proofs.Ytdndanbalmoklaa
