/-
  For every table and every flow key the law FnExactTableFind returns true: impl.TableFind answers what the model spec.TableFind answers, and leaves the table as it was. No condition; the arguments read afterwards as before.
-/
import Derived.Test.YtmfkpiclpkeemaaGE
import Derived.Test.YtmfkpiclpkeemaaGF
import Derived.Test.YtmfkpiclpkeemaaGC
import Derived.Test.YtmfkpiclpkeemaaRows
import Derived.ShutString
namespace Go.Proofs.Ytmfkpiclpkeemaa
set_option maxRecDepth 100000
open Go.RowKit

section
variable {o : Oper} {a : Act} {w : World} {K : Act → World → Prop} {Q : Exit → Act → World → Prop}
theorem u_findS (x y : Operand) (x0 x1 : Value) (ts : Array TypeId) (ho : o.op = .call { callee := .value (.func 33), args := #[x, y], argTypes := ts }) (h0 : a.eval x = x0) (h1 : a.eval y = x1)
    (h : Calls Try.prog 33 #[x0, x1] w fun e w' => ∃ v, e = .returned v ∧ K (a.put o.dst v) w') : o.wp Try.prog a w K Q := by
  unfold Oper.wp execOp
  simp only [ho, resolve, List.map_toArray, List.map_cons, List.map_nil, h0, h1, show ∀ f, a.eval (.func f) = .func (.func f) #[] #[] from fun _ => rfl]
  go_simp
  exact h.mono fun e w' ⟨u, he, hk⟩ => by subst he; exact hk
theorem u_findI (x y : Operand) (x0 x1 : Value) (ts : Array TypeId) (ho : o.op = .call { callee := .value (.func 34), args := #[x, y], argTypes := ts }) (h0 : a.eval x = x0) (h1 : a.eval y = x1)
    (h : Calls Try.prog 34 #[x0, x1] w fun e w' => ∃ v, e = .returned v ∧ K (a.put o.dst v) w') : o.wp Try.prog a w K Q := by
  unfold Oper.wp execOp
  simp only [ho, resolve, List.map_toArray, List.map_cons, List.map_nil, h0, h1, show ∀ f, a.eval (.func f) = .func (.func f) #[] #[] from fun _ => rfl]
  go_simp
  exact h.mono fun e w' ⟨u, he, hk⟩ => by subst he; exact hk
end

set_option maxHeartbeats 4000000 in
theorem lawTableFind {w : World} (s : Int) (A : Option Addr) (n c : Nat) (cs : List Ce) (h : FIn Ce.cells w A n c cs) (k : Fk) : Calls Try.prog 8 #[.agg #[.int .i64 s, .slice A n c], k.val] w fun e w' => e = .returned (.bool true) ∧ Below w.heap.size w w' := by
  unfold Fk.val
  have HL := Lib.hid h.len
  have R0 := Lib.hid h.row
  have hcap := h.cap
  have hbig := h.big
  obtain ⟨⟨r0, r1⟩, hb⟩ : ∃ b, tabFind s cs k = b := ⟨_, rfl⟩
  have SC := Lib.hid (show ∀ (A : Option Addr) (n c : Nat) (v : World), RV v v.heap.size A (fl Ce.cells cs) → cs.length = n → n ≤ 1048576 → Calls Try.prog 33 #[.agg #[.int .i64 s, .slice A n c], .agg #[.int .i64 k.tenant, .int .i64 k.key.src.k, .int .i64 k.key.src.a, .int .i64 k.key.src.b, .int .i64 k.key.src.c, .int .i64 k.key.src.d, .int .i64 k.key.dst.k, .int .i64 k.key.dst.a, .int .i64 k.key.dst.b, .int .i64 k.key.dst.c, .int .i64 k.key.dst.d, .int .i64 k.key.proto, .int .i64 k.key.sport, .int .i64 k.key.dport]] v fun e w' => e = .returned (.tuple #[.int .i64 r0, .bool r1]) ∧ Below v.heap.size v w' from fun A n c v h1 h2 h3 => by have := tabFindS s A n c cs v h1 h2 h3 k; rw [hb] at this; exact this)
  have IC := Lib.hid (show ∀ (A : Option Addr) (n c : Nat) (v : World), RV v v.heap.size A (fl Ce.cells cs) → cs.length = n → n ≤ 1048576 → Calls Try.prog 34 #[.agg #[.int .i64 s, .slice A n c], .agg #[.int .i64 k.tenant, .int .i64 k.key.src.k, .int .i64 k.key.src.a, .int .i64 k.key.src.b, .int .i64 k.key.src.c, .int .i64 k.key.src.d, .int .i64 k.key.dst.k, .int .i64 k.key.dst.a, .int .i64 k.key.dst.b, .int .i64 k.key.dst.c, .int .i64 k.key.dst.d, .int .i64 k.key.proto, .int .i64 k.key.sport, .int .i64 k.key.dport]] v fun e w' => e = .returned (.tuple #[.int .i64 r0, .bool r1]) ∧ Below v.heap.size v w' from fun A n c v h1 h2 h3 => by have := tabFindI s A n c cs v h1 h2 h3 k; rw [hb] at this; exact this)
  clear h hb
  have q0 : Hid (((w.alloc (.cells #[.int .i64 s, .slice A n c] 47)).alloc (.cells #[.int .i64 k.tenant, .int .i64 k.key.src.k, .int .i64 k.key.src.a, .int .i64 k.key.src.b, .int .i64 k.key.src.c, .int .i64 k.key.src.d, .int .i64 k.key.dst.k, .int .i64 k.key.dst.a, .int .i64 k.key.dst.b, .int .i64 k.key.dst.c, .int .i64 k.key.dst.d, .int .i64 k.key.proto, .int .i64 k.key.sport, .int .i64 k.key.dport] 27)).heap[w.heap.size]? = some (.cells #[.int .i64 s, .slice A n c] 47 (0, 0))) := Lib.hid (K.old (K.new w _) _)
  have k0 : Hid (((w.alloc (.cells #[.int .i64 s, .slice A n c] 47)).alloc (.cells #[.int .i64 k.tenant, .int .i64 k.key.src.k, .int .i64 k.key.src.a, .int .i64 k.key.src.b, .int .i64 k.key.src.c, .int .i64 k.key.src.d, .int .i64 k.key.dst.k, .int .i64 k.key.dst.a, .int .i64 k.key.dst.b, .int .i64 k.key.dst.c, .int .i64 k.key.dst.d, .int .i64 k.key.proto, .int .i64 k.key.sport, .int .i64 k.key.dport] 27)).heap[w.heap.size + 1]? = some (.cells #[.int .i64 k.tenant, .int .i64 k.key.src.k, .int .i64 k.key.src.a, .int .i64 k.key.src.b, .int .i64 k.key.src.c, .int .i64 k.key.src.d, .int .i64 k.key.dst.k, .int .i64 k.key.dst.a, .int .i64 k.key.dst.b, .int .i64 k.key.dst.c, .int .i64 k.key.dst.d, .int .i64 k.key.proto, .int .i64 k.key.sport, .int .i64 k.key.dport] 27 (0, 0))) := Lib.hid (K.newAt (by simp))
  have HB := Lib.hid (Joins.below_alloc2 w (.cells #[.int .i64 s, .slice A n c] 47) (.cells #[.int .i64 k.tenant, .int .i64 k.key.src.k, .int .i64 k.key.src.a, .int .i64 k.key.src.b, .int .i64 k.key.src.c, .int .i64 k.key.src.d, .int .i64 k.key.dst.k, .int .i64 k.key.dst.a, .int .i64 k.key.dst.b, .int .i64 k.key.dst.c, .int .i64 k.key.dst.d, .int .i64 k.key.proto, .int .i64 k.key.sport, .int .i64 k.key.dport] 27))
  go_enter Try.func8, Try.ntmps8
  go_wp2_with (with_reducible refine loadTbL rfl _ rfl w.heap.size rfl q0.out ?_)
  refine Calls.mono (szTabC s A n c 1048576 _ (by omega) (by omega) (Nat.le_trans hcap hbig)) ?_
  rintro e w1 ⟨r, rfl, hr, b1⟩
  have q1 := Lib.hid (K.below b1 q0.out)
  have B1 := Lib.hid (bthen HB.out b1)
  have k1 := Lib.hid (K.below b1 k0.out)
  clear b1 q0
  by_cases hr0 : r < 0
  · clear hr
    go_wp2
    go_ret
    exact ⟨rfl, B1.out⟩
  have hn : n ≤ 1048576 := by omega
  have hrr : 0 ≤ r := by omega
  clear hr hr0
  go_wp2_with fail
  refine wp_region_guards (by kernel_rfl) 9 46 [(0, 17), (1, 18), (2, 19), (3, 20), (4, 21), (5, 16), (6, 22), (7, 23), (8, 6)] _ ([.val (.agg #[.int .i64 s, .slice A n c]), .pr (TP s n cs) TP.on, .val (.agg #[.int .i64 k.tenant, .int .i64 k.key.src.k, .int .i64 k.key.src.a, .int .i64 k.key.src.b, .int .i64 k.key.src.c, .int .i64 k.key.src.d, .int .i64 k.key.dst.k, .int .i64 k.key.dst.a, .int .i64 k.key.dst.b, .int .i64 k.key.dst.c, .int .i64 k.key.dst.d, .int .i64 k.key.proto, .int .i64 k.key.sport, .int .i64 k.key.dport]), .val (.agg #[.int .i64 k.tenant, .int .i64 k.key.src.k, .int .i64 k.key.src.a, .int .i64 k.key.src.b, .int .i64 k.key.src.c, .int .i64 k.key.src.d, .int .i64 k.key.dst.k, .int .i64 k.key.dst.a, .int .i64 k.key.dst.b, .int .i64 k.key.dst.c, .int .i64 k.key.dst.d, .int .i64 k.key.proto, .int .i64 k.key.sport, .int .i64 k.key.dport]), .val (.tuple #[.int .i64 r0, .bool r1]), .val (.tuple #[.int .i64 r0, .bool r1]), .val (.int .i64 r0), .val (.bool r1), .val (.int .i64 r0)]) (by kernel_rfl) (by kernel_rfl) (by kernel_rfl) rfl rfl ?_ ?_
  · intro j o hj ho hr a' v K' hx hnd hB hK
    match j, hj, ho, hr with
    | 0, _, ho, _ =>
      obtain rfl := Option.some.inj ho
      have h0 : a'.eval (.tmp 2) = .pointer (some ⟨w.heap.size, 0, none⟩) := (hx 2 (by decide)).trans rfl
      exact r_tabL _ _ _ _ rfl h0 (K.below hB q1.out) (hK _ _ rfl (Below.refl _ _))
    | 1, _, ho, _ =>
      obtain rfl := Option.some.inj ho
      have h0 : a'.eval (.tmp 17) = .agg #[.int .i64 s, .slice A n c] := (gds_of hnd 0 17 (by kernel_rfl) :)
      refine u_toTab _ _ _ rfl h0 (Calls.mono (toTabP s A n c cs _ (R0.out.on (bthen B1.out hB)) HL.out hn) ?_)
      rintro e' v' ⟨z, rfl, hz, b6⟩
      exact ⟨_, rfl, hK _ _ hz b6⟩
    | 2, _, ho, _ =>
      obtain rfl := Option.some.inj ho
      have h0 : a'.eval (.tmp 3) = .pointer (some ⟨w.heap.size + 1, 0, none⟩) := (hx 3 (by decide)).trans rfl
      exact r_fkL _ _ k rfl h0 (K.below hB k1.out) (hK _ _ rfl (Below.refl _ _))
    | 3, _, ho, _ =>
      obtain rfl := Option.some.inj ho
      have h0 : a'.eval (.tmp 19) = .agg #[.int .i64 k.tenant, .int .i64 k.key.src.k, .int .i64 k.key.src.a, .int .i64 k.key.src.b, .int .i64 k.key.src.c, .int .i64 k.key.src.d, .int .i64 k.key.dst.k, .int .i64 k.key.dst.a, .int .i64 k.key.dst.b, .int .i64 k.key.dst.c, .int .i64 k.key.dst.d, .int .i64 k.key.proto, .int .i64 k.key.sport, .int .i64 k.key.dport] := (gds_of hnd 2 19 (by kernel_rfl) :)
      refine u_toFk _ _ _ rfl h0 (Calls.mono (toFlowKeyC k _) ?_)
      rintro e' v' ⟨rfl, b6⟩
      exact ⟨_, rfl, hK _ _ rfl b6⟩
    | 4, _, ho, _ =>
      obtain rfl := Option.some.inj ho
      obtain ⟨z6, h0, r6⟩ := (gds_of hnd 1 18 (by kernel_rfl) :)
      have h1 : a'.eval (.tmp 20) = .agg #[.int .i64 k.tenant, .int .i64 k.key.src.k, .int .i64 k.key.src.a, .int .i64 k.key.src.b, .int .i64 k.key.src.c, .int .i64 k.key.src.d, .int .i64 k.key.dst.k, .int .i64 k.key.dst.a, .int .i64 k.key.dst.b, .int .i64 k.key.dst.c, .int .i64 k.key.dst.d, .int .i64 k.key.proto, .int .i64 k.key.sport, .int .i64 k.key.dport] := (gds_of hnd 3 20 (by kernel_rfl) :)
      refine u_findS _ _ _ _ _ rfl h0 h1 (Calls.mono (SC.out _ n n _ r6 HL.out hn) ?_)
      rintro e' v' ⟨rfl, b6⟩
      exact ⟨_, rfl, hK _ _ rfl b6⟩
    | 5, _, ho, _ =>
      obtain rfl := Option.some.inj ho
      have h0 : a'.eval (.tmp 21) = .tuple #[.int .i64 r0, .bool r1] := (gds_of hnd 4 21 (by kernel_rfl) :)
      exact t_mv _ _ rfl h0 (hK _ _ rfl (Below.refl _ _))
    | 6, _, ho, _ =>
      obtain rfl := Option.some.inj ho
      have h0 : a'.eval (.tmp 16) = .tuple #[.int .i64 r0, .bool r1] := (gds_of hnd 5 16 (by kernel_rfl) :)
      exact t_ex0 _ _ _ rfl h0 (hK _ _ rfl (Below.refl _ _))
    | 7, _, ho, _ =>
      obtain rfl := Option.some.inj ho
      have h0 : a'.eval (.tmp 16) = .tuple #[.int .i64 r0, .bool r1] := (gds_of hnd 5 16 (by kernel_rfl) :)
      exact t_ex1 _ _ _ rfl h0 (hK _ _ rfl (Below.refl _ _))
    | 8, _, ho, _ =>
      obtain rfl := Option.some.inj ho
      have h0 : a'.eval (.tmp 22) = .int .i64 r0 := (gds_of hnd 6 22 (by kernel_rfl) :)
      exact t_as _ _ rfl h0 (hK _ _ rfl (Below.refl _ _))
    | j + 9, hj, _, _ => omega
  · intro f v hf hB
    have e0 : f 0 = (.agg #[.int .i64 s, .slice A n c]) := hf (0, 17) (by decide)
    have e2 : f 2 = (.agg #[.int .i64 k.tenant, .int .i64 k.key.src.k, .int .i64 k.key.src.a, .int .i64 k.key.src.b, .int .i64 k.key.src.c, .int .i64 k.key.src.d, .int .i64 k.key.dst.k, .int .i64 k.key.dst.a, .int .i64 k.key.dst.b, .int .i64 k.key.dst.c, .int .i64 k.key.dst.d, .int .i64 k.key.proto, .int .i64 k.key.sport, .int .i64 k.key.dport]) := hf (2, 19) (by decide)
    have e3 : f 3 = (.agg #[.int .i64 k.tenant, .int .i64 k.key.src.k, .int .i64 k.key.src.a, .int .i64 k.key.src.b, .int .i64 k.key.src.c, .int .i64 k.key.src.d, .int .i64 k.key.dst.k, .int .i64 k.key.dst.a, .int .i64 k.key.dst.b, .int .i64 k.key.dst.c, .int .i64 k.key.dst.d, .int .i64 k.key.proto, .int .i64 k.key.sport, .int .i64 k.key.dport]) := hf (3, 20) (by decide)
    have e4 : f 4 = (.tuple #[.int .i64 r0, .bool r1]) := hf (4, 21) (by decide)
    have e5 : f 5 = (.tuple #[.int .i64 r0, .bool r1]) := hf (5, 16) (by decide)
    have e6 : f 6 = (.int .i64 r0) := hf (6, 22) (by decide)
    have e7 : f 7 = (.bool r1) := hf (7, 23) (by decide)
    have e8 : f 8 = (.int .i64 r0) := hf (8, 6) (by decide)
    simp only [List.foldl_cons, List.foldl_nil, List.drop_succ_cons, List.drop_zero, e0, e2, e3, e4, e5, e6, e7, e8]
    clear e0 e2 e3 e4 e5 e6 e7 e8 hf
    go_simp
    have q3 := Lib.hid (K.below hB q1.out)
    have k3 := Lib.hid (K.below hB k1.out)
    have B3 := Lib.hid (bthen B1.out hB)
    clear hB q1 k1
    go_wp2_with (with_reducible refine loadTbL rfl _ rfl w.heap.size rfl q3.out ?_)
    refine Calls.mono (toTabC s A n c cs _ (R0.out.on B3.out) HL.out hn) ?_
    rintro e w4 ⟨g4, rfl, o4, b4⟩
    have q4 := Lib.hid (K.old (K.below b4 q3.out) (.cells #[.int .i64 s, .slice (some ⟨g4, 0, none⟩) n n] 40))
    have k4 := Lib.hid (K.old (K.below b4 k3.out) (.cells #[.int .i64 s, .slice (some ⟨g4, 0, none⟩) n n] 40))
    have x4 := Lib.hid (K.new w4 (.cells #[.int .i64 s, .slice (some ⟨g4, 0, none⟩) n n] 40))
    have B4 := Lib.hid (bthen (bthen B3.out b4) (Joins.below_alloc1 w4 (.cells #[.int .i64 s, .slice (some ⟨g4, 0, none⟩) n n] 40)))
    have X4 := Lib.hid ((RV.of_own o4).on (Joins.below_alloc1 w4 (.cells #[.int .i64 s, .slice (some ⟨g4, 0, none⟩) n n] 40)))
    clear o4 b4 q3 k3
    go_wp2_with fail
    refine wp_region_guards (by kernel_rfl) 8 46 [(0, 27), (1, 28), (2, 29), (3, 30), (4, 26), (5, 31), (6, 32), (7, 9)] _ ([.val (.agg #[.int .i64 s, .slice (some ⟨g4, 0, none⟩) n n]), .val (.agg #[.int .i64 k.tenant, .int .i64 k.key.src.k, .int .i64 k.key.src.a, .int .i64 k.key.src.b, .int .i64 k.key.src.c, .int .i64 k.key.src.d, .int .i64 k.key.dst.k, .int .i64 k.key.dst.a, .int .i64 k.key.dst.b, .int .i64 k.key.dst.c, .int .i64 k.key.dst.d, .int .i64 k.key.proto, .int .i64 k.key.sport, .int .i64 k.key.dport]), .val (.agg #[.int .i64 k.tenant, .int .i64 k.key.src.k, .int .i64 k.key.src.a, .int .i64 k.key.src.b, .int .i64 k.key.src.c, .int .i64 k.key.src.d, .int .i64 k.key.dst.k, .int .i64 k.key.dst.a, .int .i64 k.key.dst.b, .int .i64 k.key.dst.c, .int .i64 k.key.dst.d, .int .i64 k.key.proto, .int .i64 k.key.sport, .int .i64 k.key.dport]), .val (.tuple #[.int .i64 r0, .bool r1]), .val (.tuple #[.int .i64 r0, .bool r1]), .val (.int .i64 r0), .val (.bool r1), .val (.int .i64 r0)]) (by kernel_rfl) (by kernel_rfl) (by kernel_rfl) rfl rfl ?_ ?_
    · intro j o hj ho hr a' v K' hx hnd hB hK
      match j, hj, ho, hr with
      | 0, _, ho, _ =>
        obtain rfl := Option.some.inj ho
        have h0 : a'.eval (.tmp 8) = .pointer (some ⟨w4.heap.size, 0, none⟩) := (hx 8 (by decide)).trans rfl
        exact r_tab _ _ _ _ rfl h0 (K.below hB x4.out) (hK _ _ rfl (Below.refl _ _))
      | 1, _, ho, _ =>
        obtain rfl := Option.some.inj ho
        have h0 : a'.eval (.tmp 3) = .pointer (some ⟨w.heap.size + 1, 0, none⟩) := (hx 3 (by decide)).trans rfl
        exact r_fkL _ _ k rfl h0 (K.below hB k4.out) (hK _ _ rfl (Below.refl _ _))
      | 2, _, ho, _ =>
        obtain rfl := Option.some.inj ho
        have h0 : a'.eval (.tmp 28) = .agg #[.int .i64 k.tenant, .int .i64 k.key.src.k, .int .i64 k.key.src.a, .int .i64 k.key.src.b, .int .i64 k.key.src.c, .int .i64 k.key.src.d, .int .i64 k.key.dst.k, .int .i64 k.key.dst.a, .int .i64 k.key.dst.b, .int .i64 k.key.dst.c, .int .i64 k.key.dst.d, .int .i64 k.key.proto, .int .i64 k.key.sport, .int .i64 k.key.dport] := (gds_of hnd 1 28 (by kernel_rfl) :)
        refine u_toFk _ _ _ rfl h0 (Calls.mono (toFlowKeyC k _) ?_)
        rintro e' v' ⟨rfl, b6⟩
        exact ⟨_, rfl, hK _ _ rfl b6⟩
      | 3, _, ho, _ =>
        obtain rfl := Option.some.inj ho
        have h0 : a'.eval (.tmp 27) = .agg #[.int .i64 s, .slice (some ⟨g4, 0, none⟩) n n] := (gds_of hnd 0 27 (by kernel_rfl) :)
        have h1 : a'.eval (.tmp 29) = .agg #[.int .i64 k.tenant, .int .i64 k.key.src.k, .int .i64 k.key.src.a, .int .i64 k.key.src.b, .int .i64 k.key.src.c, .int .i64 k.key.src.d, .int .i64 k.key.dst.k, .int .i64 k.key.dst.a, .int .i64 k.key.dst.b, .int .i64 k.key.dst.c, .int .i64 k.key.dst.d, .int .i64 k.key.proto, .int .i64 k.key.sport, .int .i64 k.key.dport] := (gds_of hnd 2 29 (by kernel_rfl) :)
        refine u_findI _ _ _ _ _ rfl h0 h1 (Calls.mono (IC.out _ n n _ (X4.out.on hB) HL.out hn) ?_)
        rintro e' v' ⟨rfl, b6⟩
        exact ⟨_, rfl, hK _ _ rfl b6⟩
      | 4, _, ho, _ =>
        obtain rfl := Option.some.inj ho
        have h0 : a'.eval (.tmp 30) = .tuple #[.int .i64 r0, .bool r1] := (gds_of hnd 3 30 (by kernel_rfl) :)
        exact t_mv _ _ rfl h0 (hK _ _ rfl (Below.refl _ _))
      | 5, _, ho, _ =>
        obtain rfl := Option.some.inj ho
        have h0 : a'.eval (.tmp 26) = .tuple #[.int .i64 r0, .bool r1] := (gds_of hnd 4 26 (by kernel_rfl) :)
        exact t_ex0 _ _ _ rfl h0 (hK _ _ rfl (Below.refl _ _))
      | 6, _, ho, _ =>
        obtain rfl := Option.some.inj ho
        have h0 : a'.eval (.tmp 26) = .tuple #[.int .i64 r0, .bool r1] := (gds_of hnd 4 26 (by kernel_rfl) :)
        exact t_ex1 _ _ _ rfl h0 (hK _ _ rfl (Below.refl _ _))
      | 7, _, ho, _ =>
        obtain rfl := Option.some.inj ho
        have h0 : a'.eval (.tmp 31) = .int .i64 r0 := (gds_of hnd 5 31 (by kernel_rfl) :)
        exact t_as _ _ rfl h0 (hK _ _ rfl (Below.refl _ _))
      | j + 8, hj, _, _ => omega
    · intro f v hf hB
      have e0 : f 0 = (.agg #[.int .i64 s, .slice (some ⟨g4, 0, none⟩) n n]) := hf (0, 27) (by decide)
      have e1 : f 1 = (.agg #[.int .i64 k.tenant, .int .i64 k.key.src.k, .int .i64 k.key.src.a, .int .i64 k.key.src.b, .int .i64 k.key.src.c, .int .i64 k.key.src.d, .int .i64 k.key.dst.k, .int .i64 k.key.dst.a, .int .i64 k.key.dst.b, .int .i64 k.key.dst.c, .int .i64 k.key.dst.d, .int .i64 k.key.proto, .int .i64 k.key.sport, .int .i64 k.key.dport]) := hf (1, 28) (by decide)
      have e2 : f 2 = (.agg #[.int .i64 k.tenant, .int .i64 k.key.src.k, .int .i64 k.key.src.a, .int .i64 k.key.src.b, .int .i64 k.key.src.c, .int .i64 k.key.src.d, .int .i64 k.key.dst.k, .int .i64 k.key.dst.a, .int .i64 k.key.dst.b, .int .i64 k.key.dst.c, .int .i64 k.key.dst.d, .int .i64 k.key.proto, .int .i64 k.key.sport, .int .i64 k.key.dport]) := hf (2, 29) (by decide)
      have e3 : f 3 = (.tuple #[.int .i64 r0, .bool r1]) := hf (3, 30) (by decide)
      have e4 : f 4 = (.tuple #[.int .i64 r0, .bool r1]) := hf (4, 26) (by decide)
      have e5 : f 5 = (.int .i64 r0) := hf (5, 31) (by decide)
      have e6 : f 6 = (.bool r1) := hf (6, 32) (by decide)
      have e7 : f 7 = (.int .i64 r0) := hf (7, 9) (by decide)
      simp only [List.foldl_cons, List.foldl_nil, List.drop_succ_cons, List.drop_zero, e0, e1, e2, e3, e4, e5, e6, e7]
      clear e0 e1 e2 e3 e4 e5 e6 e7 hf
      go_simp
      have q5 := Lib.hid (K.below hB q4.out)
      have x5 := Lib.hid (K.below hB x4.out)
      have X5 := Lib.hid (X4.out.on hB)
      have B5 := Lib.hid (bthen B4.out hB)
      clear hB q4 k4 x4 X4
      go_wp2_with fail
      refine wp_region_guards (by kernel_rfl) 4 46 [(0, 41), (1, 42), (2, 43), (3, 44)] _ ([.val (.agg #[.int .i64 s, .slice (some ⟨g4, 0, none⟩) n n]), .val (.agg #[.int .i64 s, .slice A n c]), .pr (TP s n cs) TP.on, .val (.bool true)]) (by kernel_rfl) (by kernel_rfl) (by kernel_rfl) rfl rfl ?_ ?_
      · intro j o hj ho hr a' v K' hx hnd hB hK
        match j, hj, ho, hr with
        | 0, _, ho, _ =>
          obtain rfl := Option.some.inj ho
          have h0 : a'.eval (.tmp 8) = .pointer (some ⟨w4.heap.size, 0, none⟩) := (hx 8 (by decide)).trans rfl
          exact r_tab _ _ _ _ rfl h0 (K.below hB x5.out) (hK _ _ rfl (Below.refl _ _))
        | 1, _, ho, _ =>
          obtain rfl := Option.some.inj ho
          have h0 : a'.eval (.tmp 2) = .pointer (some ⟨w.heap.size, 0, none⟩) := (hx 2 (by decide)).trans rfl
          exact r_tabL _ _ _ _ rfl h0 (K.below hB q5.out) (hK _ _ rfl (Below.refl _ _))
        | 2, _, ho, _ =>
          obtain rfl := Option.some.inj ho
          have h0 : a'.eval (.tmp 42) = .agg #[.int .i64 s, .slice A n c] := (gds_of hnd 1 42 (by kernel_rfl) :)
          refine u_toTab _ _ _ rfl h0 (Calls.mono (toTabP s A n c cs _ (R0.out.on (bthen B5.out hB)) HL.out hn) ?_)
          rintro e' v' ⟨z, rfl, hz, b6⟩
          exact ⟨_, rfl, hK _ _ hz b6⟩
        | 3, _, ho, _ =>
          obtain rfl := Option.some.inj ho
          have h0 : a'.eval (.tmp 41) = .agg #[.int .i64 s, .slice (some ⟨g4, 0, none⟩) n n] := (gds_of hnd 0 41 (by kernel_rfl) :)
          obtain ⟨z6, rfl6, r6⟩ := (gds_of hnd 2 43 (by kernel_rfl) :)
          refine u_eqTab _ _ _ _ _ rfl h0 rfl6 (Calls.mono (eqTabC s _ _ n n n cs _ (X5.out.on hB) r6 HL.out hn) ?_)
          rintro e' v' ⟨rfl, b6⟩
          exact ⟨_, rfl, hK _ _ rfl b6⟩
        | j + 4, hj, _, _ => omega
      · intro f v hf hB
        have e0 : f 0 = (.agg #[.int .i64 s, .slice (some ⟨g4, 0, none⟩) n n]) := hf (0, 41) (by decide)
        have e1 : f 1 = (.agg #[.int .i64 s, .slice A n c]) := hf (1, 42) (by decide)
        have e3 : f 3 = (.bool true) := hf (3, 44) (by decide)
        simp only [List.foldl_cons, List.foldl_nil, List.drop_succ_cons, List.drop_zero, e0, e1, e3]
        clear e0 e1 e3 hf
        go_simp
        have B6 := Lib.hid (bthen B5.out hB)
        clear hB
        go_wp2
        go_ret
        exact ⟨rfl, B6.out⟩

namespace fnExactTableFind
open Go.ChangeShapes Go.WideShapes Go.ChangeAt Go.RowKit
open Go.ChangeMaps (open_string shut_string)
theorem own : ownKnob Try.prog.godebug = none := by kernel_rfl
theorem laidOut : laidOutB Try.prog = true := by kernel_rfl

set_option maxRecDepth 100000 in
theorem lifted (os : Os) (started : os.Started) (H : Type) (enc : TypeId × Value → H) :
    ReturnsInHanded {} Try.checked os 8 .any (Rows.fnExactTableFindSpec.pre6 enc Try.prog Try.f8 Rows.fnExactTableFindRow.domain false) (Rows.fnExactTableFindSpec.post enc Try.prog Try.f8 false true false false) := by
  refine returnsInHanded_of_change (C := Try.checked) own started (by kernel_rfl) Try.func8
    (ChangeSpec.witness6 (enc := enc) (C := Try.checked) false ⟨#[], #[.agg #[.int .i64 0, .slice none 0 0], .agg #[.int .i64 0, .int .i64 0, .int .i64 0, .int .i64 0, .int .i64 0, .int .i64 0, .int .i64 0, .int .i64 0, .int .i64 0, .int .i64 0, .int .i64 0, .int .i64 0, .int .i64 0, .int .i64 0]], []⟩ 8 (by kernel_rfl) (by kernel_rfl) (by kernel_rfl) (by kernel_rfl)) ?_
  intro W base args ds gs before hval0 hW _ _
  have hval : ∀ (j : Nat) t v, Try.f8.params[j]? = some t → args[j]? = some v → Value.okWide Try.prog W .any base t v := hval0
  have hW' := hW
  obtain ⟨p, q, hA0, hV, rfl, _, _⟩ := hW
  have hA : DataW.TrodAll enc Try.prog W 0 (fun _ => true) true Try.f8.params.toList args.toList ds p := hA0
  rw [Try.params8] at hA hval
  obtain ⟨v0, vs0, d0, ds0, p0, q0, hargs, rfl, rfl, h0, r0⟩ := trodAll_cons hA
  obtain ⟨v1, vs1, d1, ds1, p1, q1, rfl, rfl, rfl, h1, r1⟩ := trodAll_cons r0
  obtain ⟨rfl, rfl, rfl⟩ := trodAll_nil r1
  obtain rfl : args = #[v0, v1] := by cases args; simp_all
  obtain ⟨rfl, rfl⟩ := trodVars_none hV
  have k0 := h0
  have lt0 : ∀ x ∈ p0, x.block < W.heap.size := by obtain ⟨m, hm⟩ := k0; exact DataW.trod_lt m _ _ _ hm
  obtain ⟨a0, A0, n0, c0, b0, rfl, w0⟩ := tab_in (hval 0 47 v0 rfl rfl) h0
  have k1 := h1
  have lt1 : ∀ x ∈ p1, x.block < W.heap.size := by obtain ⟨m, hm⟩ := k1; exact DataW.trod_lt m _ _ _ hm
  obtain ⟨a1, rfl⟩ := fk_in (hval 1 27 v1 rfl rfl) h1
  clear hA0 hval0
  refine (lawTableFind a0 A0 n0 c0 b0 w0 a1).mono fun e W' ⟨he, bel⟩ => ?_
  subst he
  exact ⟨_, rfl, _, _, _, [], _, [], hW', trodAll_mk1 (shut_bool Try.underlying4 _), (trodAll_cons_mk (Below.trod laidOut (by kernel_rfl) (of_decide_eq_true (by kernel_rfl)) k0 bel lt0) (trodAll_cons_mk (Below.trod laidOut (by kernel_rfl) (of_decide_eq_true (by kernel_rfl)) k1 bel lt1) trodAll_mk0)), rfl, bel.frame _, fun h => by cases h⟩

theorem proved : Rows.FnExactTableFindSaid :=
  OpenClaim.holds_of_wide 8 Try.f8 rfl rfl rfl rfl rfl rfl rfl ⟨rfl, rfl, rfl, rfl, rfl⟩ rfl rfl rfl rfl rfl (by kernel_rfl) Try.func8 (by kernel_rfl)
    (of_decide_eq_true (by kernel_rfl)) (by unfold Func.isWrapper; rw [if_neg (of_decide_eq_false (by kernel_rfl))]; exact ⟨rfl, rfl⟩)
    (fun os started H enc _ => lifted os started H enc)
#print axioms proved
end fnExactTableFind
end Go.Proofs.Ytmfkpiclpkeemaa
