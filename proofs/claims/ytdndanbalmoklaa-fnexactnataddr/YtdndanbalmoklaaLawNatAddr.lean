/-
  For all prefixes and every address the law FnExactNatAddr returns true: impl.NatAddr answers what the model spec.NatAddr answers. No condition; the arguments read afterwards as before.
-/
import Derived.Test.YtdndanbalmoklaaNatI
import Derived.Test.YtdndanbalmoklaaNatS
import Derived.Test.YtdndanbalmoklaaRegNew
import Derived.Test.YtdndanbalmoklaaInAddr
import Derived.Test.YtdndanbalmoklaaRows
import Derived.ShutString
import Derived.Deep.WholeRow
import Derived.Deep.Cut
namespace Go.Proofs.Ytdndanbalmoklaa
set_option maxRecDepth 100000
open Go.RowKit

theorem info_lpfN : (Try.prog.info? 25).map (·.size) = some 6 := by kernel_rfl
theorem info_ladN : (Try.prog.info? 23).map (·.size) = some 5 := by kernel_rfl

section
variable {o : Oper} {a : Act} {w : World} {K : Act → World → Prop} {Q : Exit → Act → World → Prop}
theorem al_new_info_addr {o : Oper} {a : Act} {v : World} {K : Act → World → Prop} {Q : Exit → Act → World → Prop} (ho : o.op = .alloc 29) (hK : K (a.put o.dst (.pointer (some ⟨v.heap.size, 0, none⟩))) (v.alloc (.cells #[.int .i64 0, .int .i64 0, .int .i64 0, .int .i64 0, .int .i64 0] 29))) : o.wp Try.prog a v K Q := by
  unfold Oper.wp execOp
  simp only [ho]
  go_simp
  exact hK
theorem u_toPfxN (x : Operand) (x0 : Value) (ts : Array TypeId) (ho : o.op = .call { callee := .value (.func 24), args := #[x], argTypes := ts }) (h0 : a.eval x = x0)
    (h : Calls Try.prog 24 #[x0] w fun e w' => ∃ v, e = .returned v ∧ K (a.put o.dst v) w') : o.wp Try.prog a w K Q := by
  unfold Oper.wp execOp
  simp only [ho, resolve, List.map_toArray, List.map_cons, List.map_nil, h0, show ∀ f, a.eval (.func f) = .func (.func f) #[] #[] from fun _ => rfl]
  go_simp
  exact h.mono fun e w' ⟨u, he, hk⟩ => by subst he; exact hk
theorem u_toAddrN (x : Operand) (x0 : Value) (ts : Array TypeId) (ho : o.op = .call { callee := .value (.func 25), args := #[x], argTypes := ts }) (h0 : a.eval x = x0)
    (h : Calls Try.prog 25 #[x0] w fun e w' => ∃ v, e = .returned v ∧ K (a.put o.dst v) w') : o.wp Try.prog a w K Q := by
  unfold Oper.wp execOp
  simp only [ho, resolve, List.map_toArray, List.map_cons, List.map_nil, h0, show ∀ f, a.eval (.func f) = .func (.func f) #[] #[] from fun _ => rfl]
  go_simp
  exact h.mono fun e w' ⟨u, he, hk⟩ => by subst he; exact hk
theorem u_natSN (x y z : Operand) (x0 x1 x2 : Value) (ts : Array TypeId) (ho : o.op = .call { callee := .value (.func 23), args := #[x, y, z], argTypes := ts }) (h0 : a.eval x = x0) (h1 : a.eval y = x1) (h2 : a.eval z = x2)
    (h : Calls Try.prog 23 #[x0, x1, x2] w fun e w' => ∃ v, e = .returned v ∧ K (a.put o.dst v) w') : o.wp Try.prog a w K Q := by
  unfold Oper.wp execOp
  simp only [ho, resolve, List.map_toArray, List.map_cons, List.map_nil, h0, h1, h2, show ∀ f, a.eval (.func f) = .func (.func f) #[] #[] from fun _ => rfl]
  go_simp
  exact h.mono fun e w' ⟨u, he, hk⟩ => by subst he; exact hk
theorem u_natIN (x y z : Operand) (x0 x1 x2 : Value) (ts : Array TypeId) (ho : o.op = .call { callee := .value (.func 26), args := #[x, y, z], argTypes := ts }) (h0 : a.eval x = x0) (h1 : a.eval y = x1) (h2 : a.eval z = x2)
    (h : Calls Try.prog 26 #[x0, x1, x2] w fun e w' => ∃ v, e = .returned v ∧ K (a.put o.dst v) w') : o.wp Try.prog a w K Q := by
  unfold Oper.wp execOp
  simp only [ho, resolve, List.map_toArray, List.map_cons, List.map_nil, h0, h1, h2, show ∀ f, a.eval (.func f) = .func (.func f) #[] #[] from fun _ => rfl]
  go_simp
  exact h.mono fun e w' ⟨u, he, hk⟩ => by subst he; exact hk
end

theorem natSB (p q : Pf) (a y : Ad) (h : natA p q a = y) (w : World) : Calls Try.prog 23 #[.agg #[.int .i64 p.base.k, .int .i64 p.base.a, .int .i64 p.base.b, .int .i64 p.base.c, .int .i64 p.base.d, .int .i64 p.len], .agg #[.int .i64 q.base.k, .int .i64 q.base.a, .int .i64 q.base.b, .int .i64 q.base.c, .int .i64 q.base.d, .int .i64 q.len], .agg #[.int .i64 a.k, .int .i64 a.a, .int .i64 a.b, .int .i64 a.c, .int .i64 a.d]] w fun e w' => e = .returned (.agg #[.int .i64 y.k, .int .i64 y.a, .int .i64 y.b, .int .i64 y.c, .int .i64 y.d]) ∧ Below w.heap.size w w' := h ▸ natAddrS p q a w
theorem natIBB (p q : Pf) (a y : Ad) (h : natA p q a = y) (w : World) : Calls Try.prog 26 #[.agg #[.int .i64 p.base.k, .int .i64 p.base.a, .int .i64 p.base.b, .int .i64 p.base.c, .int .i64 p.base.d, .int .i64 p.len], .agg #[.int .i64 q.base.k, .int .i64 q.base.a, .int .i64 q.base.b, .int .i64 q.base.c, .int .i64 q.base.d, .int .i64 q.len], .agg #[.int .i64 a.k, .int .i64 a.a, .int .i64 a.b, .int .i64 a.c, .int .i64 a.d]] w fun e w' => e = .returned (.agg #[.int .i64 y.k, .int .i64 y.a, .int .i64 y.b, .int .i64 y.c, .int .i64 y.d]) ∧ Below w.heap.size w w' := h ▸ natAddrI p q a w

set_option maxHeartbeats 2000000 in
theorem lawNatAddr {w : World} (p q : Pf) (a : Ad) : Calls Try.prog 5 #[p.val, q.val, a.val] w fun e w' => e = .returned (.bool true) ∧ Below w.heap.size w w' := by
  unfold Pf.val Ad.val
  obtain ⟨y, hy⟩ : ∃ y, natA p q a = y := ⟨_, rfl⟩
  have HY := Lib.hid hy
  clear hy
  go_enter Try.func5, Try.ntmps5
  go_upto_region 1 with fail
  have p0 : Hid ((((w.alloc (.cells #[.int .i64 p.base.k, .int .i64 p.base.a, .int .i64 p.base.b, .int .i64 p.base.c, .int .i64 p.base.d, .int .i64 p.len] 25)).alloc (.cells #[.int .i64 q.base.k, .int .i64 q.base.a, .int .i64 q.base.b, .int .i64 q.base.c, .int .i64 q.base.d, .int .i64 q.len] 25)).alloc (.cells #[.int .i64 a.k, .int .i64 a.a, .int .i64 a.b, .int .i64 a.c, .int .i64 a.d] 23)).heap[w.heap.size]? = some (.cells #[.int .i64 p.base.k, .int .i64 p.base.a, .int .i64 p.base.b, .int .i64 p.base.c, .int .i64 p.base.d, .int .i64 p.len] 25 (0, 0))) := Lib.hid (K.oldAt (by first | (simp; done) | (simp; omega)) (K.oldAt (by first | (simp; done) | (simp; omega)) (K.new w _)))
  have q0 : Hid ((((w.alloc (.cells #[.int .i64 p.base.k, .int .i64 p.base.a, .int .i64 p.base.b, .int .i64 p.base.c, .int .i64 p.base.d, .int .i64 p.len] 25)).alloc (.cells #[.int .i64 q.base.k, .int .i64 q.base.a, .int .i64 q.base.b, .int .i64 q.base.c, .int .i64 q.base.d, .int .i64 q.len] 25)).alloc (.cells #[.int .i64 a.k, .int .i64 a.a, .int .i64 a.b, .int .i64 a.c, .int .i64 a.d] 23)).heap[w.heap.size + 1]? = some (.cells #[.int .i64 q.base.k, .int .i64 q.base.a, .int .i64 q.base.b, .int .i64 q.base.c, .int .i64 q.base.d, .int .i64 q.len] 25 (0, 0))) := Lib.hid (K.oldAt (by first | (simp; done) | (simp; omega)) (K.newAt (by simp)))
  have a0 : Hid ((((w.alloc (.cells #[.int .i64 p.base.k, .int .i64 p.base.a, .int .i64 p.base.b, .int .i64 p.base.c, .int .i64 p.base.d, .int .i64 p.len] 25)).alloc (.cells #[.int .i64 q.base.k, .int .i64 q.base.a, .int .i64 q.base.b, .int .i64 q.base.c, .int .i64 q.base.d, .int .i64 q.len] 25)).alloc (.cells #[.int .i64 a.k, .int .i64 a.a, .int .i64 a.b, .int .i64 a.c, .int .i64 a.d] 23)).heap[w.heap.size + 1 + 1]? = some (.cells #[.int .i64 a.k, .int .i64 a.a, .int .i64 a.b, .int .i64 a.c, .int .i64 a.d] 23 (0, 0))) := Lib.hid (K.newAt (by simp))
  have B0 : Hid (Below w.heap.size w (((w.alloc (.cells #[.int .i64 p.base.k, .int .i64 p.base.a, .int .i64 p.base.b, .int .i64 p.base.c, .int .i64 p.base.d, .int .i64 p.len] 25)).alloc (.cells #[.int .i64 q.base.k, .int .i64 q.base.a, .int .i64 q.base.b, .int .i64 q.base.c, .int .i64 q.base.d, .int .i64 q.len] 25)).alloc (.cells #[.int .i64 a.k, .int .i64 a.a, .int .i64 a.b, .int .i64 a.c, .int .i64 a.d] 23))) := Lib.hid (by go_grown)
  generalize ((w.alloc (.cells #[.int .i64 p.base.k, .int .i64 p.base.a, .int .i64 p.base.b, .int .i64 p.base.c, .int .i64 p.base.d, .int .i64 p.len] 25)).alloc (.cells #[.int .i64 q.base.k, .int .i64 q.base.a, .int .i64 q.base.b, .int .i64 q.base.c, .int .i64 q.base.d, .int .i64 q.len] 25)).alloc (.cells #[.int .i64 a.k, .int .i64 a.a, .int .i64 a.b, .int .i64 a.c, .int .i64 a.d] 23) = w0 at p0 q0 a0 B0 ⊢
  refine wp_region_new 29 #[.int .i64 0, .int .i64 0, .int .i64 0, .int .i64 0, .int .i64 0] (by kernel_rfl) [3, 4, 5] 27 [(0, 9), (1, 10), (2, 11), (3, 12), (4, 13), (5, 14), (6, 15), (7, 7)] ([.val (.agg #[.int .i64 p.base.k, .int .i64 p.base.a, .int .i64 p.base.b, .int .i64 p.base.c, .int .i64 p.base.d, .int .i64 p.len]), .val (.agg #[.int .i64 p.base.k, .int .i64 p.base.a, .int .i64 p.base.b, .int .i64 p.base.c, .int .i64 p.base.d, .int .i64 p.len]), .val (.agg #[.int .i64 q.base.k, .int .i64 q.base.a, .int .i64 q.base.b, .int .i64 q.base.c, .int .i64 q.base.d, .int .i64 q.len]), .val (.agg #[.int .i64 q.base.k, .int .i64 q.base.a, .int .i64 q.base.b, .int .i64 q.base.c, .int .i64 q.base.d, .int .i64 q.len]), .val (.agg #[.int .i64 a.k, .int .i64 a.a, .int .i64 a.b, .int .i64 a.c, .int .i64 a.d]), .val (.agg #[.int .i64 a.k, .int .i64 a.a, .int .i64 a.b, .int .i64 a.c, .int .i64 a.d]), .val (.agg #[.int .i64 y.k, .int .i64 y.a, .int .i64 y.b, .int .i64 y.c, .int .i64 y.d]), .any, .any]) 7 8 7 (by decide) (by kernel_rfl) (by kernel_rfl) (by kernel_rfl) rfl (by kernel_rfl) rfl rfl (fun b v => v.heap[b]? = some (.cells #[.int .i64 y.k, .int .i64 y.a, .int .i64 y.b, .int .i64 y.c, .int .i64 y.d] 29 (0, 0))) (fun _ _ _ hb h => K.below hb h) ?_ ?_ ?_ ?_
  · intro o ho a' v K' hK
    obtain rfl := Option.some.inj ho
    exact al_new_info_addr rfl hK
  · intro o ho a' v K' b hx hpb hz hnd hB hK
    obtain rfl := Option.some.inj ho
    have h0 : a'.eval (.tmp 15) = .agg #[.int .i64 y.k, .int .i64 y.a, .int .i64 y.b, .int .i64 y.c, .int .i64 y.d] := (new_of hnd 6 15 (by kernel_rfl) (by decide) :)
    exact wp_store_row 29 _ _ rfl b _ hpb h0 _ _ hz info_addr rfl (by simp [Value.oneCell']) (hK _ _ (setRow_heap _ _ _ _ _ _ hz) (setRow_grownR v b _))
  · intro j o hja hjs ho a' v K' hx hnd hB hK
    match j, hja, hjs, ho with
    | 0, _, _, ho =>
      obtain rfl := Option.some.inj ho
      have h0 : a'.eval (.tmp 3) = .pointer (some ⟨w.heap.size, 0, none⟩) := (hx 3 (by decide)).trans rfl
      exact wp_load_row 25 _ rfl (w.heap.size) h0 _ _ (0, 0) _ (K.below hB p0.out) Try.underlying25 rfl info_lpfN (hK _ _ rfl (Below.refl _ _))
    | 1, _, _, ho =>
      obtain rfl := Option.some.inj ho
      have h0 : a'.eval (.tmp 9) = .agg #[.int .i64 p.base.k, .int .i64 p.base.a, .int .i64 p.base.b, .int .i64 p.base.c, .int .i64 p.base.d, .int .i64 p.len] := (new_of hnd 0 9 (by kernel_rfl) (by decide) :)
      refine u_toPfxN _ _ _ rfl h0 (Calls.mono (toPrefixC p v) ?_)
      rintro e' v' ⟨rfl, b6⟩
      exact ⟨_, rfl, hK _ _ rfl b6⟩
    | 2, _, _, ho =>
      obtain rfl := Option.some.inj ho
      have h0 : a'.eval (.tmp 4) = .pointer (some ⟨w.heap.size + 1, 0, none⟩) := (hx 4 (by decide)).trans rfl
      exact wp_load_row 25 _ rfl (w.heap.size + 1) h0 _ _ (0, 0) _ (K.below hB q0.out) Try.underlying25 rfl info_lpfN (hK _ _ rfl (Below.refl _ _))
    | 3, _, _, ho =>
      obtain rfl := Option.some.inj ho
      have h0 : a'.eval (.tmp 11) = .agg #[.int .i64 q.base.k, .int .i64 q.base.a, .int .i64 q.base.b, .int .i64 q.base.c, .int .i64 q.base.d, .int .i64 q.len] := (new_of hnd 2 11 (by kernel_rfl) (by decide) :)
      refine u_toPfxN _ _ _ rfl h0 (Calls.mono (toPrefixC q v) ?_)
      rintro e' v' ⟨rfl, b6⟩
      exact ⟨_, rfl, hK _ _ rfl b6⟩
    | 4, _, _, ho =>
      obtain rfl := Option.some.inj ho
      have h0 : a'.eval (.tmp 5) = .pointer (some ⟨w.heap.size + 1 + 1, 0, none⟩) := (hx 5 (by decide)).trans rfl
      exact wp_load_row 23 _ rfl (w.heap.size + 1 + 1) h0 _ _ (0, 0) _ (K.below hB a0.out) Try.underlying23 rfl info_ladN (hK _ _ rfl (Below.refl _ _))
    | 5, _, _, ho =>
      obtain rfl := Option.some.inj ho
      have h0 : a'.eval (.tmp 13) = .agg #[.int .i64 a.k, .int .i64 a.a, .int .i64 a.b, .int .i64 a.c, .int .i64 a.d] := (new_of hnd 4 13 (by kernel_rfl) (by decide) :)
      refine u_toAddrN _ _ _ rfl h0 (Calls.mono (toAddrC a v) ?_)
      rintro e' v' ⟨rfl, b6⟩
      exact ⟨_, rfl, hK _ _ rfl b6⟩
    | 6, _, _, ho =>
      obtain rfl := Option.some.inj ho
      have h0 : a'.eval (.tmp 10) = .agg #[.int .i64 p.base.k, .int .i64 p.base.a, .int .i64 p.base.b, .int .i64 p.base.c, .int .i64 p.base.d, .int .i64 p.len] := (new_of hnd 1 10 (by kernel_rfl) (by decide) :)
      have h1 : a'.eval (.tmp 12) = .agg #[.int .i64 q.base.k, .int .i64 q.base.a, .int .i64 q.base.b, .int .i64 q.base.c, .int .i64 q.base.d, .int .i64 q.len] := (new_of hnd 3 12 (by kernel_rfl) (by decide) :)
      have h2 : a'.eval (.tmp 14) = .agg #[.int .i64 a.k, .int .i64 a.a, .int .i64 a.b, .int .i64 a.c, .int .i64 a.d] := (new_of hnd 5 14 (by kernel_rfl) (by decide) :)
      refine u_natSN _ _ _ _ _ _ _ rfl h0 h1 h2 (Calls.mono (natSB p q a y HY.out v) ?_)
      rintro e' v' ⟨rfl, b6⟩
      exact ⟨_, rfl, hK _ _ rfl b6⟩
    | 7, hja, _, _ => exact absurd rfl hja
    | 8, _, hjs, _ => exact absurd rfl hjs
    | j + 9, _, _, ho => simp at ho
  · intro f w1 g1 hf eN lN rN hB
    have e0 : f 0 = (.agg #[.int .i64 p.base.k, .int .i64 p.base.a, .int .i64 p.base.b, .int .i64 p.base.c, .int .i64 p.base.d, .int .i64 p.len]) := hf (0, 9) (by decide) (by decide)
    have e1 : f 1 = (.agg #[.int .i64 p.base.k, .int .i64 p.base.a, .int .i64 p.base.b, .int .i64 p.base.c, .int .i64 p.base.d, .int .i64 p.len]) := hf (1, 10) (by decide) (by decide)
    have e2 : f 2 = (.agg #[.int .i64 q.base.k, .int .i64 q.base.a, .int .i64 q.base.b, .int .i64 q.base.c, .int .i64 q.base.d, .int .i64 q.len]) := hf (2, 11) (by decide) (by decide)
    have e3 : f 3 = (.agg #[.int .i64 q.base.k, .int .i64 q.base.a, .int .i64 q.base.b, .int .i64 q.base.c, .int .i64 q.base.d, .int .i64 q.len]) := hf (3, 12) (by decide) (by decide)
    have e4 : f 4 = (.agg #[.int .i64 a.k, .int .i64 a.a, .int .i64 a.b, .int .i64 a.c, .int .i64 a.d]) := hf (4, 13) (by decide) (by decide)
    have e5 : f 5 = (.agg #[.int .i64 a.k, .int .i64 a.a, .int .i64 a.b, .int .i64 a.c, .int .i64 a.d]) := hf (5, 14) (by decide) (by decide)
    have e6 : f 6 = (.agg #[.int .i64 y.k, .int .i64 y.a, .int .i64 y.b, .int .i64 y.c, .int .i64 y.d]) := hf (6, 15) (by decide) (by decide)
    simp only [List.foldl_cons, List.foldl_nil, e0, e1, e2, e3, e4, e5, e6, eN]
    clear e0 e1 e2 e3 e4 e5 e6 eN hf
    go_simp
    have r1 := Lib.hid rN
    have p1 := Lib.hid (K.below hB p0.out)
    have q1 := Lib.hid (K.below hB q0.out)
    have a1 := Lib.hid (K.below hB a0.out)
    have B1 := Lib.hid (bthen B0.out hB)
    clear rN hB lN p0 q0 a0 B0
    go_wp2_with fail
    refine wp_region_new 29 #[.int .i64 0, .int .i64 0, .int .i64 0, .int .i64 0, .int .i64 0] (by kernel_rfl) [3, 4, 5, 7] 27 [(0, 16), (1, 17), (2, 18), (3, 19), (4, 20), (5, 21), (6, 22), (7, 8)] ([.val (.agg #[.int .i64 p.base.k, .int .i64 p.base.a, .int .i64 p.base.b, .int .i64 p.base.c, .int .i64 p.base.d, .int .i64 p.len]), .val (.agg #[.int .i64 p.base.k, .int .i64 p.base.a, .int .i64 p.base.b, .int .i64 p.base.c, .int .i64 p.base.d, .int .i64 p.len]), .val (.agg #[.int .i64 q.base.k, .int .i64 q.base.a, .int .i64 q.base.b, .int .i64 q.base.c, .int .i64 q.base.d, .int .i64 q.len]), .val (.agg #[.int .i64 q.base.k, .int .i64 q.base.a, .int .i64 q.base.b, .int .i64 q.base.c, .int .i64 q.base.d, .int .i64 q.len]), .val (.agg #[.int .i64 a.k, .int .i64 a.a, .int .i64 a.b, .int .i64 a.c, .int .i64 a.d]), .val (.agg #[.int .i64 a.k, .int .i64 a.a, .int .i64 a.b, .int .i64 a.c, .int .i64 a.d]), .val (.agg #[.int .i64 y.k, .int .i64 y.a, .int .i64 y.b, .int .i64 y.c, .int .i64 y.d]), .any, .any]) 7 8 8 (by decide) (by kernel_rfl) (by kernel_rfl) (by kernel_rfl) rfl (by kernel_rfl) rfl rfl (fun b v => v.heap[b]? = some (.cells #[.int .i64 y.k, .int .i64 y.a, .int .i64 y.b, .int .i64 y.c, .int .i64 y.d] 29 (0, 0))) (fun _ _ _ hb h => K.below hb h) ?_ ?_ ?_ ?_
    · intro o ho a' v K' hK
      obtain rfl := Option.some.inj ho
      exact al_new_info_addr rfl hK
    · intro o ho a' v K' b hx hpb hz hnd hB hK
      obtain rfl := Option.some.inj ho
      have h0 : a'.eval (.tmp 22) = .agg #[.int .i64 y.k, .int .i64 y.a, .int .i64 y.b, .int .i64 y.c, .int .i64 y.d] := (new_of hnd 6 22 (by kernel_rfl) (by decide) :)
      exact wp_store_row 29 _ _ rfl b _ hpb h0 _ _ hz info_addr rfl (by simp [Value.oneCell']) (hK _ _ (setRow_heap _ _ _ _ _ _ hz) (setRow_grownR v b _))
    · intro j o hja hjs ho a' v K' hx hnd hB hK
      match j, hja, hjs, ho with
      | 0, _, _, ho =>
        obtain rfl := Option.some.inj ho
        have h0 : a'.eval (.tmp 3) = .pointer (some ⟨w.heap.size, 0, none⟩) := (hx 3 (by decide)).trans rfl
        exact wp_load_row 25 _ rfl (w.heap.size) h0 _ _ (0, 0) _ (K.below hB p1.out) Try.underlying25 rfl info_lpfN (hK _ _ rfl (Below.refl _ _))
      | 1, _, _, ho =>
        obtain rfl := Option.some.inj ho
        have h0 : a'.eval (.tmp 16) = .agg #[.int .i64 p.base.k, .int .i64 p.base.a, .int .i64 p.base.b, .int .i64 p.base.c, .int .i64 p.base.d, .int .i64 p.len] := (new_of hnd 0 16 (by kernel_rfl) (by decide) :)
        refine u_toPfxN _ _ _ rfl h0 (Calls.mono (toPrefixC p v) ?_)
        rintro e' v' ⟨rfl, b6⟩
        exact ⟨_, rfl, hK _ _ rfl b6⟩
      | 2, _, _, ho =>
        obtain rfl := Option.some.inj ho
        have h0 : a'.eval (.tmp 4) = .pointer (some ⟨w.heap.size + 1, 0, none⟩) := (hx 4 (by decide)).trans rfl
        exact wp_load_row 25 _ rfl (w.heap.size + 1) h0 _ _ (0, 0) _ (K.below hB q1.out) Try.underlying25 rfl info_lpfN (hK _ _ rfl (Below.refl _ _))
      | 3, _, _, ho =>
        obtain rfl := Option.some.inj ho
        have h0 : a'.eval (.tmp 18) = .agg #[.int .i64 q.base.k, .int .i64 q.base.a, .int .i64 q.base.b, .int .i64 q.base.c, .int .i64 q.base.d, .int .i64 q.len] := (new_of hnd 2 18 (by kernel_rfl) (by decide) :)
        refine u_toPfxN _ _ _ rfl h0 (Calls.mono (toPrefixC q v) ?_)
        rintro e' v' ⟨rfl, b6⟩
        exact ⟨_, rfl, hK _ _ rfl b6⟩
      | 4, _, _, ho =>
        obtain rfl := Option.some.inj ho
        have h0 : a'.eval (.tmp 5) = .pointer (some ⟨w.heap.size + 1 + 1, 0, none⟩) := (hx 5 (by decide)).trans rfl
        exact wp_load_row 23 _ rfl (w.heap.size + 1 + 1) h0 _ _ (0, 0) _ (K.below hB a1.out) Try.underlying23 rfl info_ladN (hK _ _ rfl (Below.refl _ _))
      | 5, _, _, ho =>
        obtain rfl := Option.some.inj ho
        have h0 : a'.eval (.tmp 20) = .agg #[.int .i64 a.k, .int .i64 a.a, .int .i64 a.b, .int .i64 a.c, .int .i64 a.d] := (new_of hnd 4 20 (by kernel_rfl) (by decide) :)
        refine u_toAddrN _ _ _ rfl h0 (Calls.mono (toAddrC a v) ?_)
        rintro e' v' ⟨rfl, b6⟩
        exact ⟨_, rfl, hK _ _ rfl b6⟩
      | 6, _, _, ho =>
        obtain rfl := Option.some.inj ho
        have h0 : a'.eval (.tmp 17) = .agg #[.int .i64 p.base.k, .int .i64 p.base.a, .int .i64 p.base.b, .int .i64 p.base.c, .int .i64 p.base.d, .int .i64 p.len] := (new_of hnd 1 17 (by kernel_rfl) (by decide) :)
        have h1 : a'.eval (.tmp 19) = .agg #[.int .i64 q.base.k, .int .i64 q.base.a, .int .i64 q.base.b, .int .i64 q.base.c, .int .i64 q.base.d, .int .i64 q.len] := (new_of hnd 3 19 (by kernel_rfl) (by decide) :)
        have h2 : a'.eval (.tmp 21) = .agg #[.int .i64 a.k, .int .i64 a.a, .int .i64 a.b, .int .i64 a.c, .int .i64 a.d] := (new_of hnd 5 21 (by kernel_rfl) (by decide) :)
        refine u_natIN _ _ _ _ _ _ _ rfl h0 h1 h2 (Calls.mono (natIBB p q a y HY.out v) ?_)
        rintro e' v' ⟨rfl, b6⟩
        exact ⟨_, rfl, hK _ _ rfl b6⟩
      | 7, hja, _, _ => exact absurd rfl hja
      | 8, _, hjs, _ => exact absurd rfl hjs
      | j + 9, _, _, ho => simp at ho
    · intro f w2 g2 hf eN lN rN hB
      have e0 : f 0 = (.agg #[.int .i64 p.base.k, .int .i64 p.base.a, .int .i64 p.base.b, .int .i64 p.base.c, .int .i64 p.base.d, .int .i64 p.len]) := hf (0, 16) (by decide) (by decide)
      have e1 : f 1 = (.agg #[.int .i64 p.base.k, .int .i64 p.base.a, .int .i64 p.base.b, .int .i64 p.base.c, .int .i64 p.base.d, .int .i64 p.len]) := hf (1, 17) (by decide) (by decide)
      have e2 : f 2 = (.agg #[.int .i64 q.base.k, .int .i64 q.base.a, .int .i64 q.base.b, .int .i64 q.base.c, .int .i64 q.base.d, .int .i64 q.len]) := hf (2, 18) (by decide) (by decide)
      have e3 : f 3 = (.agg #[.int .i64 q.base.k, .int .i64 q.base.a, .int .i64 q.base.b, .int .i64 q.base.c, .int .i64 q.base.d, .int .i64 q.len]) := hf (3, 19) (by decide) (by decide)
      have e4 : f 4 = (.agg #[.int .i64 a.k, .int .i64 a.a, .int .i64 a.b, .int .i64 a.c, .int .i64 a.d]) := hf (4, 20) (by decide) (by decide)
      have e5 : f 5 = (.agg #[.int .i64 a.k, .int .i64 a.a, .int .i64 a.b, .int .i64 a.c, .int .i64 a.d]) := hf (5, 21) (by decide) (by decide)
      have e6 : f 6 = (.agg #[.int .i64 y.k, .int .i64 y.a, .int .i64 y.b, .int .i64 y.c, .int .i64 y.d]) := hf (6, 22) (by decide) (by decide)
      simp only [List.foldl_cons, List.foldl_nil, e0, e1, e2, e3, e4, e5, e6, eN]
      clear e0 e1 e2 e3 e4 e5 e6 eN hf
      go_simp
      have r2 := Lib.hid rN
      have r3 := Lib.hid (K.below hB r1.out)
      have B2 := Lib.hid (bthen B1.out hB)
      clear rN hB lN p1 q1 a1 B1 r1
      have c0 := K.cell r2.out 0 _ rfl
      have c1 := K.cell r2.out 1 _ rfl
      have c2 := K.cell r2.out 2 _ rfl
      have c3 := K.cell r2.out 3 _ rfl
      have c4 := K.cell r2.out 4 _ rfl
      have d0 := K.cell r3.out 0 _ rfl
      have d1 := K.cell r3.out 1 _ rfl
      have d2 := K.cell r3.out 2 _ rfl
      have d3 := K.cell r3.out 3 _ rfl
      have d4 := K.cell r3.out 4 _ rfl
      go_wp2_with fail
      refine Calls.mono (eqAddrC y _) ?_
      rintro e w3 ⟨rfl, b3⟩
      have B3 := Lib.hid (bthen B2.out b3)
      clear b3 B2 c0 c1 c2 c3 c4 d0 d1 d2 d3 d4
      go_wp2
      go_ret
      exact ⟨rfl, B3.out⟩

namespace fnExactNatAddr
open Go.ChangeShapes Go.WideShapes Go.ChangeAt Go.RowKit
open Go.ChangeMaps (open_string shut_string)
theorem own : ownKnob Try.prog.godebug = none := by kernel_rfl
theorem laidOut : laidOutB Try.prog = true := by kernel_rfl

set_option maxRecDepth 100000 in
theorem lifted (os : Os) (started : os.Started) (H : Type) (enc : TypeId × Value → H) :
    ReturnsInHanded {} Try.checked os 5 .any (Rows.fnExactNatAddrSpec.pre6 enc Try.prog Try.f5 Rows.fnExactNatAddrRow.domain false) (Rows.fnExactNatAddrSpec.post enc Try.prog Try.f5 false true false false) := by
  refine returnsInHanded_of_change (C := Try.checked) own started (by kernel_rfl) Try.func5
    (ChangeSpec.witness6 (enc := enc) (C := Try.checked) false ⟨#[], #[.agg #[.int .i64 0, .int .i64 0, .int .i64 0, .int .i64 0, .int .i64 0, .int .i64 0], .agg #[.int .i64 0, .int .i64 0, .int .i64 0, .int .i64 0, .int .i64 0, .int .i64 0], .agg #[.int .i64 0, .int .i64 0, .int .i64 0, .int .i64 0, .int .i64 0]], []⟩ 8 (by kernel_rfl) (by kernel_rfl) (by kernel_rfl) (by kernel_rfl)) ?_
  intro W base args ds gs before hval0 hW _ _
  have hval : ∀ (j : Nat) t v, Try.f5.params[j]? = some t → args[j]? = some v → Value.okWide Try.prog W .any base t v := hval0
  have hW' := hW
  obtain ⟨p, q, hA0, hV, rfl, _, _⟩ := hW
  have hA : DataW.TrodAll enc Try.prog W 0 (fun _ => true) true Try.f5.params.toList args.toList ds p := hA0
  rw [Try.params5] at hA hval
  obtain ⟨v0, vs0, d0, ds0, p0, q0, hargs, rfl, rfl, h0, r0⟩ := trodAll_cons hA
  obtain ⟨v1, vs1, d1, ds1, p1, q1, rfl, rfl, rfl, h1, r1⟩ := trodAll_cons r0
  obtain ⟨v2, vs2, d2, ds2, p2, q2, rfl, rfl, rfl, h2, r2⟩ := trodAll_cons r1
  obtain ⟨rfl, rfl, rfl⟩ := trodAll_nil r2
  obtain rfl : args = #[v0, v1, v2] := by cases args; simp_all
  obtain ⟨rfl, rfl⟩ := trodVars_none hV
  have k0 := h0
  have lt0 : ∀ x ∈ p0, x.block < W.heap.size := by obtain ⟨m, hm⟩ := k0; exact DataW.trod_lt m _ _ _ hm
  obtain ⟨a0, rfl⟩ := pfx_in (hval 0 25 v0 rfl rfl) h0
  have k1 := h1
  have lt1 : ∀ x ∈ p1, x.block < W.heap.size := by obtain ⟨m, hm⟩ := k1; exact DataW.trod_lt m _ _ _ hm
  obtain ⟨a1, rfl⟩ := pfx_in (hval 1 25 v1 rfl rfl) h1
  have k2 := h2
  have lt2 : ∀ x ∈ p2, x.block < W.heap.size := by obtain ⟨m, hm⟩ := k2; exact DataW.trod_lt m _ _ _ hm
  obtain ⟨a2, rfl⟩ := addr_in (hval 2 23 v2 rfl rfl) h2
  clear hA0 hval0
  refine (lawNatAddr a0 a1 a2).mono fun e W' ⟨he, bel⟩ => ?_
  subst he
  exact ⟨_, rfl, _, _, _, [], _, [], hW', trodAll_mk1 (shut_bool Try.underlying4 _), (trodAll_cons_mk (Below.trod laidOut (by kernel_rfl) (of_decide_eq_true (by kernel_rfl)) k0 bel lt0) (trodAll_cons_mk (Below.trod laidOut (by kernel_rfl) (of_decide_eq_true (by kernel_rfl)) k1 bel lt1) (trodAll_cons_mk (Below.trod laidOut (by kernel_rfl) (of_decide_eq_true (by kernel_rfl)) k2 bel lt2) trodAll_mk0))), rfl, bel.frame _, fun h => by cases h⟩

theorem proved : Rows.FnExactNatAddrSaid :=
  OpenClaim.holds_of_wide 5 Try.f5 rfl rfl rfl rfl rfl rfl rfl ⟨rfl, rfl, rfl, rfl, rfl⟩ rfl rfl rfl rfl rfl (by kernel_rfl) Try.func5 (by kernel_rfl)
    (of_decide_eq_true (by kernel_rfl)) (by unfold Func.isWrapper; rw [if_neg (of_decide_eq_false (by kernel_rfl))]; exact ⟨rfl, rfl⟩)
    (fun os started H enc _ => lifted os started H enc)
#print axioms proved
end fnExactNatAddr
end Go.Proofs.Ytdndanbalmoklaa
