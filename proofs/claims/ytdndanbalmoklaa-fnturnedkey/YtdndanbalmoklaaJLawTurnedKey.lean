/-
  For every text of at most 2^20 bytes, and every longer one, the law FnTurnedKey returns true: Turned applied twice returns the key, and a rule holds a key exactly if the rule with its ends exchanged holds the turned key. No condition; the argument reads afterwards as before.
-/
import Derived.Test.YtdndanbalmoklaaDrawRH
import Derived.Test.YtdndanbalmoklaaKwB
import Derived.Test.YtdndanbalmoklaaKwA
import Derived.Test.YtdndanbalmoklaaRegGuard
import Derived.Test.YtdndanbalmoklaaInBytes
import Derived.Test.YtdndanbalmoklaaRows
import Derived.ShutString
namespace Go.Proofs.Ytdndanbalmoklaa
set_option maxRecDepth 100000
open Go.RowKit

/-- The rule with its ends exchanged. -/
def Ru.swap (r : Ru) : Ru := ⟨r.prio, r.dst, r.src, r.proto, r.dlo, r.dhi, r.slo, r.shi, r.tenant, r.weight, r.chain⟩
theorem pairA_symm {x y : Ad} : pairA x y = pairA y x := by
  unfold pairA
  rw [Bool.eq_iff_iff]
  simp
  constructor
  · rintro ⟨⟨a, b⟩, c⟩
    exact ⟨⟨b, a⟩, c.symm⟩
  · rintro ⟨⟨a, b⟩, c⟩
    exact ⟨⟨b, a⟩, c.symm⟩
theorem Ky.turned_ok {k : Ky} (h : k.ok = true) : k.turned.ok = true := by
  have e : k.turned = ⟨k.dst, k.src, k.proto, k.dport, k.sport⟩ := by simp [Ky.turned, h]
  rw [e]
  simp only [Ky.ok] at h ⊢
  rw [pairA_symm]
  simp only [Bool.and_eq_true] at h ⊢
  exact ⟨⟨⟨h.1.1.1, h.1.1.2⟩, h.2⟩, h.1.2⟩
theorem Ky.turned_turned {k : Ky} (h : k.ok = true) : k.turned.turned = k := by
  have h2 := Ky.turned_ok h
  have e : k.turned = ⟨k.dst, k.src, k.proto, k.dport, k.sport⟩ := by simp [Ky.turned, h]
  rw [e] at h2 ⊢
  rw [Ky.turned, if_pos h2]
theorem Ky.turned_no {k : Ky} (h : k.ok = false) : k.turned = ⟨⟨0, 0, 0, 0, 0⟩, ⟨0, 0, 0, 0, 0⟩, 0, 0, 0⟩ := by simp [Ky.turned, h, Ky.zero]
theorem Ru.swap_ok (r : Ru) : r.swap.ok = r.ok := by
  simp only [Ru.ok, Ru.swap]
  rw [Bool.eq_iff_iff]
  simp only [Bool.and_eq_true]
  constructor <;> (intro h; exact ⟨⟨⟨⟨⟨⟨⟨⟨h.1.1.1.1.1.1.1.1, h.1.1.1.1.1.1.2⟩, h.1.1.1.1.1.1.1.2⟩, h.1.1.1.1.1.2⟩, h.1.1.1.2⟩, h.1.1.1.1.2⟩, h.1.1.2⟩, h.1.2⟩, h.2⟩)
theorem Ru.swap_has {r : Ru} {k : Ky} (h : k.ok = true) : r.swap.has k.turned = r.has k := by
  have h2 := Ky.turned_ok h
  have e : k.turned = ⟨k.dst, k.src, k.proto, k.dport, k.sport⟩ := by simp [Ky.turned, h]
  unfold Ru.has
  rw [Ru.swap_ok, h2, h, e]
  simp only [Ru.hits, Ru.swap]
  rw [Bool.eq_iff_iff]
  simp only [Bool.and_eq_true]
  constructor <;> (rintro ⟨a, ⟨⟨⟨b, c⟩, d⟩, e⟩, f⟩; exact ⟨a, ⟨⟨⟨c, b⟩, d⟩, f⟩, e⟩)
theorem turnedIB (x y : Ky) (h : x.turned = y) (w : World) : Calls Try.prog 35 #[.agg #[.int .i64 x.src.k, .int .i64 x.src.a, .int .i64 x.src.b, .int .i64 x.src.c, .int .i64 x.src.d, .int .i64 x.dst.k, .int .i64 x.dst.a, .int .i64 x.dst.b, .int .i64 x.dst.c, .int .i64 x.dst.d, .int .i64 x.proto, .int .i64 x.sport, .int .i64 x.dport]] w fun e w' => e = .returned (.agg #[.int .i64 y.src.k, .int .i64 y.src.a, .int .i64 y.src.b, .int .i64 y.src.c, .int .i64 y.src.d, .int .i64 y.dst.k, .int .i64 y.dst.a, .int .i64 y.dst.b, .int .i64 y.dst.c, .int .i64 y.dst.d, .int .i64 y.proto, .int .i64 y.sport, .int .i64 y.dport]) ∧ Below w.heap.size w w' := h ▸ turnedI x w
theorem turnedI0 (x : Ky) (h : x.ok = false) (w : World) : Calls Try.prog 35 #[.agg #[.int .i64 x.src.k, .int .i64 x.src.a, .int .i64 x.src.b, .int .i64 x.src.c, .int .i64 x.src.d, .int .i64 x.dst.k, .int .i64 x.dst.a, .int .i64 x.dst.b, .int .i64 x.dst.c, .int .i64 x.dst.d, .int .i64 x.proto, .int .i64 x.sport, .int .i64 x.dport]] w fun e w' => e = .returned (.agg #[.int .i64 0, .int .i64 0, .int .i64 0, .int .i64 0, .int .i64 0, .int .i64 0, .int .i64 0, .int .i64 0, .int .i64 0, .int .i64 0, .int .i64 0, .int .i64 0, .int .i64 0]) ∧ Below w.heap.size w w' :=
  (turnedIB x _ (Ky.turned_no h) w).mono fun _ _ ⟨a, b⟩ => ⟨a, b⟩
set_option maxHeartbeats 1000000 in
theorem eq_kk (x : Ky) (w : World) : (Op.equalIn 10000 55 (.agg #[.int .i64 x.src.k, .int .i64 x.src.a, .int .i64 x.src.b, .int .i64 x.src.c, .int .i64 x.src.d, .int .i64 x.dst.k, .int .i64 x.dst.a, .int .i64 x.dst.b, .int .i64 x.dst.c, .int .i64 x.dst.d, .int .i64 x.proto, .int .i64 x.sport, .int .i64 x.dport]) (.agg #[.int .i64 x.src.k, .int .i64 x.src.a, .int .i64 x.src.b, .int .i64 x.src.c, .int .i64 x.src.d, .int .i64 x.dst.k, .int .i64 x.dst.a, .int .i64 x.dst.b, .int .i64 x.dst.c, .int .i64 x.dst.d, .int .i64 x.proto, .int .i64 x.sport, .int .i64 x.dport])).run Try.prog w = .ok true w := by
  go_simp

/-- A rule in block b3, a key in block b4, the rule to be exchanged in block b5; nothing old has turned. -/
structure TK (w0 : World) (b3 b4 b5 : Nat) (r : Ru) (k : Ky) (y : Ru) (w : World) : Prop where
  p3 : w.heap[b3]? = some (.cells #[.int .i64 r.prio, .int .i64 r.src.base.k, .int .i64 r.src.base.a, .int .i64 r.src.base.b, .int .i64 r.src.base.c, .int .i64 r.src.base.d, .int .i64 r.src.len, .int .i64 r.dst.base.k, .int .i64 r.dst.base.a, .int .i64 r.dst.base.b, .int .i64 r.dst.base.c, .int .i64 r.dst.base.d, .int .i64 r.dst.len, .int .i64 r.proto, .int .i64 r.slo, .int .i64 r.shi, .int .i64 r.dlo, .int .i64 r.dhi, .int .i64 r.tenant, .int .i64 r.weight, .int .i64 r.chain] 53 (0, 0))
  p4 : w.heap[b4]? = some (.cells #[.int .i64 k.src.k, .int .i64 k.src.a, .int .i64 k.src.b, .int .i64 k.src.c, .int .i64 k.src.d, .int .i64 k.dst.k, .int .i64 k.dst.a, .int .i64 k.dst.b, .int .i64 k.dst.c, .int .i64 k.dst.d, .int .i64 k.proto, .int .i64 k.sport, .int .i64 k.dport] 55 (0, 0))
  p5 : w.heap[b5]? = some (.cells #[.int .i64 y.prio, .int .i64 y.src.base.k, .int .i64 y.src.base.a, .int .i64 y.src.base.b, .int .i64 y.src.base.c, .int .i64 y.src.base.d, .int .i64 y.src.len, .int .i64 y.dst.base.k, .int .i64 y.dst.base.a, .int .i64 y.dst.base.b, .int .i64 y.dst.base.c, .int .i64 y.dst.base.d, .int .i64 y.dst.len, .int .i64 y.proto, .int .i64 y.slo, .int .i64 y.shi, .int .i64 y.dlo, .int .i64 y.dhi, .int .i64 y.tenant, .int .i64 y.weight, .int .i64 y.chain] 53 (0, 0))
  bel : Below w0.heap.size w0 w
  ne : b3 ≠ b5 ∧ b4 ≠ b5
  old : w0.heap.size ≤ b5
section
variable {w0 w w' : World} {b3 b4 b5 : Nat} {r y : Ru} {k : Ky}
theorem TK.set (h : TK w0 b3 b4 b5 r k y w) (j : Nat) (z : Int) (y' : Ru) (he : (#[.int .i64 y.prio, .int .i64 y.src.base.k, .int .i64 y.src.base.a, .int .i64 y.src.base.b, .int .i64 y.src.base.c, .int .i64 y.src.base.d, .int .i64 y.src.len, .int .i64 y.dst.base.k, .int .i64 y.dst.base.a, .int .i64 y.dst.base.b, .int .i64 y.dst.base.c, .int .i64 y.dst.base.d, .int .i64 y.dst.len, .int .i64 y.proto, .int .i64 y.slo, .int .i64 y.shi, .int .i64 y.dlo, .int .i64 y.dhi, .int .i64 y.tenant, .int .i64 y.weight, .int .i64 y.chain] : Array Value).setIfInBounds j (.int .i64 z) = #[.int .i64 y'.prio, .int .i64 y'.src.base.k, .int .i64 y'.src.base.a, .int .i64 y'.src.base.b, .int .i64 y'.src.base.c, .int .i64 y'.src.base.d, .int .i64 y'.src.len, .int .i64 y'.dst.base.k, .int .i64 y'.dst.base.a, .int .i64 y'.dst.base.b, .int .i64 y'.dst.base.c, .int .i64 y'.dst.base.d, .int .i64 y'.dst.len, .int .i64 y'.proto, .int .i64 y'.slo, .int .i64 y'.shi, .int .i64 y'.dlo, .int .i64 y'.dhi, .int .i64 y'.tenant, .int .i64 y'.weight, .int .i64 y'.chain]) : TK w0 b3 b4 b5 r k y' (w.setCell ⟨b5, j, none⟩ (.int .i64 z)) :=
  ⟨K.other h.p3 b5 j _ h.ne.1, K.other h.p4 b5 j _ h.ne.2, he ▸ K.set h.p5 j _, h.bel.setCell (p := ⟨b5, j, none⟩) h.old _, h.ne, h.old⟩
theorem TK.below (h : TK w0 b3 b4 b5 r k y w) (hb : Below w.heap.size w w') : TK w0 b3 b4 b5 r k y w' :=
  ⟨K.below hb h.p3, K.below hb h.p4, K.below hb h.p5, bthen h.bel hb, h.ne, h.old⟩
end

section
variable {o : Oper} {a : Act} {w : World} {K : Act → World → Prop} {Q : Exit → Act → World → Prop}
theorem t_ldR (x : Operand) (g : Nat) (r : Ru) (ho : o.op = .load 53 x) (hx : a.eval x = .pointer (some ⟨g, 0, none⟩)) (hr : w.heap[g]? = some (.cells #[.int .i64 r.prio, .int .i64 r.src.base.k, .int .i64 r.src.base.a, .int .i64 r.src.base.b, .int .i64 r.src.base.c, .int .i64 r.src.base.d, .int .i64 r.src.len, .int .i64 r.dst.base.k, .int .i64 r.dst.base.a, .int .i64 r.dst.base.b, .int .i64 r.dst.base.c, .int .i64 r.dst.base.d, .int .i64 r.dst.len, .int .i64 r.proto, .int .i64 r.slo, .int .i64 r.shi, .int .i64 r.dlo, .int .i64 r.dhi, .int .i64 r.tenant, .int .i64 r.weight, .int .i64 r.chain] 53 (0, 0))) (hK : K (a.put o.dst (.agg #[.int .i64 r.prio, .int .i64 r.src.base.k, .int .i64 r.src.base.a, .int .i64 r.src.base.b, .int .i64 r.src.base.c, .int .i64 r.src.base.d, .int .i64 r.src.len, .int .i64 r.dst.base.k, .int .i64 r.dst.base.a, .int .i64 r.dst.base.b, .int .i64 r.dst.base.c, .int .i64 r.dst.base.d, .int .i64 r.dst.len, .int .i64 r.proto, .int .i64 r.slo, .int .i64 r.shi, .int .i64 r.dlo, .int .i64 r.dhi, .int .i64 r.tenant, .int .i64 r.weight, .int .i64 r.chain])) w) : o.wp Try.prog a w K Q :=
  wp_load_row 53 x ho g hx _ _ (0, 0) _ hr Try.underlying53 rfl info_rule hK
theorem t_ldK (x : Operand) (g : Nat) (k : Ky) (ho : o.op = .load 55 x) (hx : a.eval x = .pointer (some ⟨g, 0, none⟩)) (hr : w.heap[g]? = some (.cells #[.int .i64 k.src.k, .int .i64 k.src.a, .int .i64 k.src.b, .int .i64 k.src.c, .int .i64 k.src.d, .int .i64 k.dst.k, .int .i64 k.dst.a, .int .i64 k.dst.b, .int .i64 k.dst.c, .int .i64 k.dst.d, .int .i64 k.proto, .int .i64 k.sport, .int .i64 k.dport] 55 (0, 0))) (hK : K (a.put o.dst (.agg #[.int .i64 k.src.k, .int .i64 k.src.a, .int .i64 k.src.b, .int .i64 k.src.c, .int .i64 k.src.d, .int .i64 k.dst.k, .int .i64 k.dst.a, .int .i64 k.dst.b, .int .i64 k.dst.c, .int .i64 k.dst.d, .int .i64 k.proto, .int .i64 k.sport, .int .i64 k.dport])) w) : o.wp Try.prog a w K Q :=
  wp_load_row 55 x ho g hx _ _ (0, 0) _ hr Try.underlying55 rfl info_key hK
theorem t_eqK (x y : Operand) (k : Ky) (ho : o.op = .binOp .eql 55 x y 55) (hx : a.eval x = .agg #[.int .i64 k.src.k, .int .i64 k.src.a, .int .i64 k.src.b, .int .i64 k.src.c, .int .i64 k.src.d, .int .i64 k.dst.k, .int .i64 k.dst.a, .int .i64 k.dst.b, .int .i64 k.dst.c, .int .i64 k.dst.d, .int .i64 k.proto, .int .i64 k.sport, .int .i64 k.dport]) (hy : a.eval y = .agg #[.int .i64 k.src.k, .int .i64 k.src.a, .int .i64 k.src.b, .int .i64 k.src.c, .int .i64 k.src.d, .int .i64 k.dst.k, .int .i64 k.dst.a, .int .i64 k.dst.b, .int .i64 k.dst.c, .int .i64 k.dst.d, .int .i64 k.proto, .int .i64 k.sport, .int .i64 k.dport]) (hK : K (a.put o.dst (.bool true)) w) : o.wp Try.prog a w K Q := by
  unfold Oper.wp execOp
  simp only [ho, hx, hy]
  have he := eq_kk k w
  go_simp
  exact hK
theorem t_eqB (x y : Operand) (b : Bool) (ho : o.op = .binOp .eql 4 x y 4) (hx : a.eval x = .bool b) (hy : a.eval y = .bool b) (hK : K (a.put o.dst (.bool true)) w) : o.wp Try.prog a w K Q := by
  unfold Oper.wp execOp
  simp only [ho, hx, hy]
  cases b <;> (go_simp; exact hK)
theorem t_mv (x : Operand) (v : Value) (ho : o.op = .move x) (hx : a.eval x = v) (hK : K (a.put o.dst v) w) : o.wp Try.prog a w K Q := by
  unfold Oper.wp execOp
  simp only [ho, hx]
  go_simp
  exact hK
theorem u_turnT (x : Operand) (x0 : Value) (ts : Array TypeId) (ho : o.op = .call { callee := .value (.func 35), args := #[x], argTypes := ts }) (h0 : a.eval x = x0)
    (h : Calls Try.prog 35 #[x0] w fun e w' => ∃ v, e = .returned v ∧ K (a.put o.dst v) w') : o.wp Try.prog a w K Q := by
  unfold Oper.wp execOp
  simp only [ho, resolve, List.map_toArray, List.map_cons, List.map_nil, h0, show ∀ f, a.eval (.func f) = .func (.func f) #[] #[] from fun _ => rfl]
  go_simp
  exact h.mono fun e w' ⟨u, he, hk⟩ => by subst he; exact hk
theorem u_hasTI (x y : Operand) (x0 x1 : Value) (ts : Array TypeId) (ho : o.op = .call { callee := .value (.func 36), args := #[x, y], argTypes := ts }) (h0 : a.eval x = x0) (h1 : a.eval y = x1)
    (h : Calls Try.prog 36 #[x0, x1] w fun e w' => ∃ v, e = .returned v ∧ K (a.put o.dst v) w') : o.wp Try.prog a w K Q := by
  unfold Oper.wp execOp
  simp only [ho, resolve, List.map_toArray, List.map_cons, List.map_nil, h0, h1, show ∀ f, a.eval (.func f) = .func (.func f) #[] #[] from fun _ => rfl]
  go_simp
  exact h.mono fun e w' ⟨u, he, hk⟩ => by subst he; exact hk
theorem u_hasTS (x y : Operand) (x0 x1 : Value) (ts : Array TypeId) (ho : o.op = .call { callee := .value (.func 37), args := #[x, y], argTypes := ts }) (h0 : a.eval x = x0) (h1 : a.eval y = x1)
    (h : Calls Try.prog 37 #[x0, x1] w fun e w' => ∃ v, e = .returned v ∧ K (a.put o.dst v) w') : o.wp Try.prog a w K Q := by
  unfold Oper.wp execOp
  simp only [ho, resolve, List.map_toArray, List.map_cons, List.map_nil, h0, h1, show ∀ f, a.eval (.func f) = .func (.func f) #[] #[] from fun _ => rfl]
  go_simp
  exact h.mono fun e w' ⟨u, he, hk⟩ => by subst he; exact hk
end

set_option maxHeartbeats 8000000 in
theorem lawTurnedKey {w : World} (A : Option Addr) (n c : Nat) (bs : List UInt8) (h : In w A n c bs) : Calls Try.prog 7 #[.slice A n c] w fun e w' => e = .returned (.bool true) ∧ Below w.heap.size w w' := by
  obtain ⟨rfl, hcap, hmax, hrb⟩ := h
  have R0 := Lib.hid hrb
  clear hrb hcap
  unfold maxLen at hmax
  go_enter Try.func7, Try.ntmps7
  go_wp2_with fail
  refine Calls.mono (bigB A bs.length c _) ?_
  rintro e w1 ⟨rfl, rfl⟩
  by_cases hbig : (1048576 : Int) < bs.length
  · go_wp2
    go_ret
    exact ⟨rfl, by go_grown⟩
  have hn : bs.length ≤ 1048576 := by omega
  go_wp2_with fail
  refine Calls.mono (drawRuleHasC A c bs _ R0.out hn) ?_
  rintro e w2 ⟨r, k, rfl, b2⟩
  have B2 := Lib.hid b2
  clear b2 R0
  have P1 : Hid (((w2.alloc (.cells #[.int .i64 0, .int .i64 0, .int .i64 0, .int .i64 0, .int .i64 0, .int .i64 0, .int .i64 0, .int .i64 0, .int .i64 0, .int .i64 0, .int .i64 0, .int .i64 0, .int .i64 0, .int .i64 0, .int .i64 0, .int .i64 0, .int .i64 0, .int .i64 0, .int .i64 0, .int .i64 0, .int .i64 0] 53)).alloc (.cells #[.int .i64 0, .int .i64 0, .int .i64 0, .int .i64 0, .int .i64 0, .int .i64 0, .int .i64 0, .int .i64 0, .int .i64 0, .int .i64 0, .int .i64 0, .int .i64 0, .int .i64 0] 55)).heap[w2.heap.size]? = some (.cells #[.int .i64 0, .int .i64 0, .int .i64 0, .int .i64 0, .int .i64 0, .int .i64 0, .int .i64 0, .int .i64 0, .int .i64 0, .int .i64 0, .int .i64 0, .int .i64 0, .int .i64 0, .int .i64 0, .int .i64 0, .int .i64 0, .int .i64 0, .int .i64 0, .int .i64 0, .int .i64 0, .int .i64 0] 53 (0, 0))) := Lib.hid (K.old (K.new w2 _) _)
  have P2 : Hid (((w2.alloc (.cells #[.int .i64 0, .int .i64 0, .int .i64 0, .int .i64 0, .int .i64 0, .int .i64 0, .int .i64 0, .int .i64 0, .int .i64 0, .int .i64 0, .int .i64 0, .int .i64 0, .int .i64 0, .int .i64 0, .int .i64 0, .int .i64 0, .int .i64 0, .int .i64 0, .int .i64 0, .int .i64 0, .int .i64 0] 53)).alloc (.cells #[.int .i64 0, .int .i64 0, .int .i64 0, .int .i64 0, .int .i64 0, .int .i64 0, .int .i64 0, .int .i64 0, .int .i64 0, .int .i64 0, .int .i64 0, .int .i64 0, .int .i64 0] 55)).heap[w2.heap.size + 1]? = some (.cells #[.int .i64 0, .int .i64 0, .int .i64 0, .int .i64 0, .int .i64 0, .int .i64 0, .int .i64 0, .int .i64 0, .int .i64 0, .int .i64 0, .int .i64 0, .int .i64 0, .int .i64 0] 55 (0, 0))) := Lib.hid (K.newAt (by simp))
  have S1 := Lib.hid (setRow_grownD ((w2.alloc (.cells #[.int .i64 0, .int .i64 0, .int .i64 0, .int .i64 0, .int .i64 0, .int .i64 0, .int .i64 0, .int .i64 0, .int .i64 0, .int .i64 0, .int .i64 0, .int .i64 0, .int .i64 0, .int .i64 0, .int .i64 0, .int .i64 0, .int .i64 0, .int .i64 0, .int .i64 0, .int .i64 0, .int .i64 0] 53)).alloc (.cells #[.int .i64 0, .int .i64 0, .int .i64 0, .int .i64 0, .int .i64 0, .int .i64 0, .int .i64 0, .int .i64 0, .int .i64 0, .int .i64 0, .int .i64 0, .int .i64 0, .int .i64 0] 55)) w2.heap.size #[.int .i64 r.prio, .int .i64 r.src.base.k, .int .i64 r.src.base.a, .int .i64 r.src.base.b, .int .i64 r.src.base.c, .int .i64 r.src.base.d, .int .i64 r.src.len, .int .i64 r.dst.base.k, .int .i64 r.dst.base.a, .int .i64 r.dst.base.b, .int .i64 r.dst.base.c, .int .i64 r.dst.base.d, .int .i64 r.dst.len, .int .i64 r.proto, .int .i64 r.slo, .int .i64 r.shi, .int .i64 r.dlo, .int .i64 r.dhi, .int .i64 r.tenant, .int .i64 r.weight, .int .i64 r.chain])
  have P3 := Lib.hid (row_kept S1.out (by omega) P2.out)
  have S2 := Lib.hid (setRow_grownD (((w2.alloc (.cells #[.int .i64 0, .int .i64 0, .int .i64 0, .int .i64 0, .int .i64 0, .int .i64 0, .int .i64 0, .int .i64 0, .int .i64 0, .int .i64 0, .int .i64 0, .int .i64 0, .int .i64 0, .int .i64 0, .int .i64 0, .int .i64 0, .int .i64 0, .int .i64 0, .int .i64 0, .int .i64 0, .int .i64 0] 53)).alloc (.cells #[.int .i64 0, .int .i64 0, .int .i64 0, .int .i64 0, .int .i64 0, .int .i64 0, .int .i64 0, .int .i64 0, .int .i64 0, .int .i64 0, .int .i64 0, .int .i64 0, .int .i64 0] 55)).setRow w2.heap.size #[.int .i64 r.prio, .int .i64 r.src.base.k, .int .i64 r.src.base.a, .int .i64 r.src.base.b, .int .i64 r.src.base.c, .int .i64 r.src.base.d, .int .i64 r.src.len, .int .i64 r.dst.base.k, .int .i64 r.dst.base.a, .int .i64 r.dst.base.b, .int .i64 r.dst.base.c, .int .i64 r.dst.base.d, .int .i64 r.dst.len, .int .i64 r.proto, .int .i64 r.slo, .int .i64 r.shi, .int .i64 r.dlo, .int .i64 r.dhi, .int .i64 r.tenant, .int .i64 r.weight, .int .i64 r.chain]) (w2.heap.size + 1) #[.int .i64 k.src.k, .int .i64 k.src.a, .int .i64 k.src.b, .int .i64 k.src.c, .int .i64 k.src.d, .int .i64 k.dst.k, .int .i64 k.dst.a, .int .i64 k.dst.b, .int .i64 k.dst.c, .int .i64 k.dst.d, .int .i64 k.proto, .int .i64 k.sport, .int .i64 k.dport])
  have r3 : Hid (((((w2.alloc (.cells #[.int .i64 0, .int .i64 0, .int .i64 0, .int .i64 0, .int .i64 0, .int .i64 0, .int .i64 0, .int .i64 0, .int .i64 0, .int .i64 0, .int .i64 0, .int .i64 0, .int .i64 0, .int .i64 0, .int .i64 0, .int .i64 0, .int .i64 0, .int .i64 0, .int .i64 0, .int .i64 0, .int .i64 0] 53)).alloc (.cells #[.int .i64 0, .int .i64 0, .int .i64 0, .int .i64 0, .int .i64 0, .int .i64 0, .int .i64 0, .int .i64 0, .int .i64 0, .int .i64 0, .int .i64 0, .int .i64 0, .int .i64 0] 55)).setRow w2.heap.size #[.int .i64 r.prio, .int .i64 r.src.base.k, .int .i64 r.src.base.a, .int .i64 r.src.base.b, .int .i64 r.src.base.c, .int .i64 r.src.base.d, .int .i64 r.src.len, .int .i64 r.dst.base.k, .int .i64 r.dst.base.a, .int .i64 r.dst.base.b, .int .i64 r.dst.base.c, .int .i64 r.dst.base.d, .int .i64 r.dst.len, .int .i64 r.proto, .int .i64 r.slo, .int .i64 r.shi, .int .i64 r.dlo, .int .i64 r.dhi, .int .i64 r.tenant, .int .i64 r.weight, .int .i64 r.chain]).setRow (w2.heap.size + 1) #[.int .i64 k.src.k, .int .i64 k.src.a, .int .i64 k.src.b, .int .i64 k.src.c, .int .i64 k.src.d, .int .i64 k.dst.k, .int .i64 k.dst.a, .int .i64 k.dst.b, .int .i64 k.dst.c, .int .i64 k.dst.d, .int .i64 k.proto, .int .i64 k.sport, .int .i64 k.dport]).heap[w2.heap.size]? = some (.cells #[.int .i64 r.prio, .int .i64 r.src.base.k, .int .i64 r.src.base.a, .int .i64 r.src.base.b, .int .i64 r.src.base.c, .int .i64 r.src.base.d, .int .i64 r.src.len, .int .i64 r.dst.base.k, .int .i64 r.dst.base.a, .int .i64 r.dst.base.b, .int .i64 r.dst.base.c, .int .i64 r.dst.base.d, .int .i64 r.dst.len, .int .i64 r.proto, .int .i64 r.slo, .int .i64 r.shi, .int .i64 r.dlo, .int .i64 r.dhi, .int .i64 r.tenant, .int .i64 r.weight, .int .i64 r.chain] 53 (0, 0))) := Lib.hid (row_kept S2.out (by omega) (setRow_heap _ _ _ _ _ _ P1.out))
  have k3 : Hid (((((w2.alloc (.cells #[.int .i64 0, .int .i64 0, .int .i64 0, .int .i64 0, .int .i64 0, .int .i64 0, .int .i64 0, .int .i64 0, .int .i64 0, .int .i64 0, .int .i64 0, .int .i64 0, .int .i64 0, .int .i64 0, .int .i64 0, .int .i64 0, .int .i64 0, .int .i64 0, .int .i64 0, .int .i64 0, .int .i64 0] 53)).alloc (.cells #[.int .i64 0, .int .i64 0, .int .i64 0, .int .i64 0, .int .i64 0, .int .i64 0, .int .i64 0, .int .i64 0, .int .i64 0, .int .i64 0, .int .i64 0, .int .i64 0, .int .i64 0] 55)).setRow w2.heap.size #[.int .i64 r.prio, .int .i64 r.src.base.k, .int .i64 r.src.base.a, .int .i64 r.src.base.b, .int .i64 r.src.base.c, .int .i64 r.src.base.d, .int .i64 r.src.len, .int .i64 r.dst.base.k, .int .i64 r.dst.base.a, .int .i64 r.dst.base.b, .int .i64 r.dst.base.c, .int .i64 r.dst.base.d, .int .i64 r.dst.len, .int .i64 r.proto, .int .i64 r.slo, .int .i64 r.shi, .int .i64 r.dlo, .int .i64 r.dhi, .int .i64 r.tenant, .int .i64 r.weight, .int .i64 r.chain]).setRow (w2.heap.size + 1) #[.int .i64 k.src.k, .int .i64 k.src.a, .int .i64 k.src.b, .int .i64 k.src.c, .int .i64 k.src.d, .int .i64 k.dst.k, .int .i64 k.dst.a, .int .i64 k.dst.b, .int .i64 k.dst.c, .int .i64 k.dst.d, .int .i64 k.proto, .int .i64 k.sport, .int .i64 k.dport]).heap[w2.heap.size + 1]? = some (.cells #[.int .i64 k.src.k, .int .i64 k.src.a, .int .i64 k.src.b, .int .i64 k.src.c, .int .i64 k.src.d, .int .i64 k.dst.k, .int .i64 k.dst.a, .int .i64 k.dst.b, .int .i64 k.dst.c, .int .i64 k.dst.d, .int .i64 k.proto, .int .i64 k.sport, .int .i64 k.dport] 55 (0, 0))) := Lib.hid (setRow_heap _ _ _ _ _ _ P3.out)
  have B3 : Hid (Below w.heap.size w ((((w2.alloc (.cells #[.int .i64 0, .int .i64 0, .int .i64 0, .int .i64 0, .int .i64 0, .int .i64 0, .int .i64 0, .int .i64 0, .int .i64 0, .int .i64 0, .int .i64 0, .int .i64 0, .int .i64 0, .int .i64 0, .int .i64 0, .int .i64 0, .int .i64 0, .int .i64 0, .int .i64 0, .int .i64 0, .int .i64 0] 53)).alloc (.cells #[.int .i64 0, .int .i64 0, .int .i64 0, .int .i64 0, .int .i64 0, .int .i64 0, .int .i64 0, .int .i64 0, .int .i64 0, .int .i64 0, .int .i64 0, .int .i64 0, .int .i64 0] 55)).setRow w2.heap.size #[.int .i64 r.prio, .int .i64 r.src.base.k, .int .i64 r.src.base.a, .int .i64 r.src.base.b, .int .i64 r.src.base.c, .int .i64 r.src.base.d, .int .i64 r.src.len, .int .i64 r.dst.base.k, .int .i64 r.dst.base.a, .int .i64 r.dst.base.b, .int .i64 r.dst.base.c, .int .i64 r.dst.base.d, .int .i64 r.dst.len, .int .i64 r.proto, .int .i64 r.slo, .int .i64 r.shi, .int .i64 r.dlo, .int .i64 r.dhi, .int .i64 r.tenant, .int .i64 r.weight, .int .i64 r.chain]).setRow (w2.heap.size + 1) #[.int .i64 k.src.k, .int .i64 k.src.a, .int .i64 k.src.b, .int .i64 k.src.c, .int .i64 k.src.d, .int .i64 k.dst.k, .int .i64 k.dst.a, .int .i64 k.dst.b, .int .i64 k.dst.c, .int .i64 k.dst.d, .int .i64 k.proto, .int .i64 k.sport, .int .i64 k.dport])) := Lib.hid (bgrown (bgrown (bthen B2.out (Joins.below_alloc2 w2 _ _)) S1.out (fun q hq => by cases hq; exact B2.out.size)) S2.out (fun q hq => by cases hq; have := B2.out.size; omega))
  go_upto_region 4 with (first | (with_reducible refine storeRu rfl _ _ rfl w2.heap.size rfl rfl P1.out ?_) | (with_reducible refine storeK rfl _ _ rfl (w2.heap.size + 1) rfl rfl P3.out ?_))
  generalize (((w2.alloc (.cells #[.int .i64 0, .int .i64 0, .int .i64 0, .int .i64 0, .int .i64 0, .int .i64 0, .int .i64 0, .int .i64 0, .int .i64 0, .int .i64 0, .int .i64 0, .int .i64 0, .int .i64 0, .int .i64 0, .int .i64 0, .int .i64 0, .int .i64 0, .int .i64 0, .int .i64 0, .int .i64 0, .int .i64 0] 53)).alloc (.cells #[.int .i64 0, .int .i64 0, .int .i64 0, .int .i64 0, .int .i64 0, .int .i64 0, .int .i64 0, .int .i64 0, .int .i64 0, .int .i64 0, .int .i64 0, .int .i64 0, .int .i64 0] 55)).setRow w2.heap.size #[.int .i64 r.prio, .int .i64 r.src.base.k, .int .i64 r.src.base.a, .int .i64 r.src.base.b, .int .i64 r.src.base.c, .int .i64 r.src.base.d, .int .i64 r.src.len, .int .i64 r.dst.base.k, .int .i64 r.dst.base.a, .int .i64 r.dst.base.b, .int .i64 r.dst.base.c, .int .i64 r.dst.base.d, .int .i64 r.dst.len, .int .i64 r.proto, .int .i64 r.slo, .int .i64 r.shi, .int .i64 r.dlo, .int .i64 r.dhi, .int .i64 r.tenant, .int .i64 r.weight, .int .i64 r.chain]).setRow (w2.heap.size + 1) #[.int .i64 k.src.k, .int .i64 k.src.a, .int .i64 k.src.b, .int .i64 k.src.c, .int .i64 k.src.d, .int .i64 k.dst.k, .int .i64 k.dst.a, .int .i64 k.dst.b, .int .i64 k.dst.c, .int .i64 k.dst.d, .int .i64 k.proto, .int .i64 k.sport, .int .i64 k.dport] = w3 at r3 k3 B3 ⊢
  clear P1 P2 P3 S1 S2 B2
  generalize hB : w2.heap.size = b3 at *
  clear hB
  cases hk : k.ok with
  | false =>
    have HK := Lib.hid hk
    clear hk
    go_wp2_with (with_reducible refine loadK rfl _ rfl (b3 + 1) rfl k3.out ?_)
    refine Calls.mono (keyOkSB k false HK.out _) ?_
    rintro e w4 ⟨rfl, b4⟩
    have k4 := Lib.hid (K.below b4 k3.out)
    have B4 := Lib.hid (bthen B3.out b4)
    clear b4 k3 B3
    go_wp2_with (with_reducible refine loadK rfl _ rfl (b3 + 1) rfl k4.out ?_)
    refine Calls.mono (turnedI0 k HK.out _) ?_
    rintro e w5 ⟨rfl, b5⟩
    have B5 := Lib.hid (bthen B4.out b5)
    clear b5 k4 B4
    go_wp2
    go_ret
    exact ⟨rfl, B5.out⟩
  | true =>
    obtain ⟨t, ht⟩ : ∃ t, k.turned = t := ⟨_, rfl⟩
    have HT := Lib.hid ht
    have HU := Lib.hid (show t.turned = k from ht ▸ Ky.turned_turned hk)
    obtain ⟨vb, hv⟩ : ∃ vb, r.has k = vb := ⟨_, rfl⟩
    have HV := Lib.hid hv
    have HW := Lib.hid (show r.swap.has t = vb from ht ▸ (Ru.swap_has hk).trans hv)
    have HK := Lib.hid hk
    clear hk ht hv
    go_wp2_with (with_reducible refine loadK rfl _ rfl (b3 + 1) rfl k3.out ?_)
    refine Calls.mono (keyOkSB k true HK.out _) ?_
    rintro e w4 ⟨rfl, b4⟩
    have k4 := Lib.hid (K.below b4 k3.out)
    have r4 := Lib.hid (K.below b4 r3.out)
    have B4 := Lib.hid (bthen B3.out b4)
    clear b4 k3 r3 B3
    have lk := K.lt k4.out
    have D5 : Hid (TK w b3 (b3 + 1) w4.heap.size r k r (w4.alloc (.cells #[.int .i64 r.prio, .int .i64 r.src.base.k, .int .i64 r.src.base.a, .int .i64 r.src.base.b, .int .i64 r.src.base.c, .int .i64 r.src.base.d, .int .i64 r.src.len, .int .i64 r.dst.base.k, .int .i64 r.dst.base.a, .int .i64 r.dst.base.b, .int .i64 r.dst.base.c, .int .i64 r.dst.base.d, .int .i64 r.dst.len, .int .i64 r.proto, .int .i64 r.slo, .int .i64 r.shi, .int .i64 r.dlo, .int .i64 r.dhi, .int .i64 r.tenant, .int .i64 r.weight, .int .i64 r.chain] 53))) := Lib.hid ⟨K.old r4.out _, K.old k4.out _, K.new w4 _, bthen B4.out (Joins.below_alloc1 w4 _), by omega, B4.out.size⟩
    go_upto_region 7 with (first | (with_reducible refine loadR rfl _ rfl b3 rfl r4.out ?_) | (with_reducible refine storeNewRu rfl _ _ rfl rfl rfl ?_))
    generalize w4.alloc (.cells #[.int .i64 r.prio, .int .i64 r.src.base.k, .int .i64 r.src.base.a, .int .i64 r.src.base.b, .int .i64 r.src.base.c, .int .i64 r.src.base.d, .int .i64 r.src.len, .int .i64 r.dst.base.k, .int .i64 r.dst.base.a, .int .i64 r.dst.base.b, .int .i64 r.dst.base.c, .int .i64 r.dst.base.d, .int .i64 r.dst.len, .int .i64 r.proto, .int .i64 r.slo, .int .i64 r.shi, .int .i64 r.dlo, .int .i64 r.dhi, .int .i64 r.tenant, .int .i64 r.weight, .int .i64 r.chain] 53) = w5 at D5 ⊢
    generalize hB : w4.heap.size = b5 at *
    clear hB r4 k4 B4 lk
    have c7 := K.cell D5.out.p3 7 _ rfl
    have d1 := K.cell D5.out.p5 1 _ rfl
    have f1 := frozen_of_row _ _ 1 _ _ D5.out.p5
    have c8 := K.cell D5.out.p3 8 _ rfl
    have d2 := K.cell D5.out.p5 2 _ rfl
    have f2 := frozen_of_row _ _ 2 _ _ D5.out.p5
    have c9 := K.cell D5.out.p3 9 _ rfl
    have d3 := K.cell D5.out.p5 3 _ rfl
    have f3 := frozen_of_row _ _ 3 _ _ D5.out.p5
    have c10 := K.cell D5.out.p3 10 _ rfl
    have d4 := K.cell D5.out.p5 4 _ rfl
    have f4 := frozen_of_row _ _ 4 _ _ D5.out.p5
    have c11 := K.cell D5.out.p3 11 _ rfl
    have d5 := K.cell D5.out.p5 5 _ rfl
    have f5 := frozen_of_row _ _ 5 _ _ D5.out.p5
    have c12 := K.cell D5.out.p3 12 _ rfl
    have d6 := K.cell D5.out.p5 6 _ rfl
    have f6 := frozen_of_row _ _ 6 _ _ D5.out.p5
    go_upto_region 8 with fail
    have D6 : Hid (TK w b3 (b3 + 1) b5 r k (⟨r.prio, ⟨⟨r.dst.base.k, r.dst.base.a, r.dst.base.b, r.dst.base.c, r.dst.base.d⟩, r.dst.len⟩, ⟨⟨r.dst.base.k, r.dst.base.a, r.dst.base.b, r.dst.base.c, r.dst.base.d⟩, r.dst.len⟩, r.proto, r.slo, r.shi, r.dlo, r.dhi, r.tenant, r.weight, r.chain⟩ : Ru) ((((((w5.setCell ⟨b5, 1, none⟩ (.int .i64 r.dst.base.k)).setCell ⟨b5, 2, none⟩ (.int .i64 r.dst.base.a)).setCell ⟨b5, 3, none⟩ (.int .i64 r.dst.base.b)).setCell ⟨b5, 4, none⟩ (.int .i64 r.dst.base.c)).setCell ⟨b5, 5, none⟩ (.int .i64 r.dst.base.d)).setCell ⟨b5, 6, none⟩ (.int .i64 r.dst.len))) := Lib.hid ((((((D5.out.set 1 r.dst.base.k (⟨r.prio, ⟨⟨r.dst.base.k, r.src.base.a, r.src.base.b, r.src.base.c, r.src.base.d⟩, r.src.len⟩, ⟨⟨r.dst.base.k, r.dst.base.a, r.dst.base.b, r.dst.base.c, r.dst.base.d⟩, r.dst.len⟩, r.proto, r.slo, r.shi, r.dlo, r.dhi, r.tenant, r.weight, r.chain⟩ : Ru) rfl).set 2 r.dst.base.a (⟨r.prio, ⟨⟨r.dst.base.k, r.dst.base.a, r.src.base.b, r.src.base.c, r.src.base.d⟩, r.src.len⟩, ⟨⟨r.dst.base.k, r.dst.base.a, r.dst.base.b, r.dst.base.c, r.dst.base.d⟩, r.dst.len⟩, r.proto, r.slo, r.shi, r.dlo, r.dhi, r.tenant, r.weight, r.chain⟩ : Ru) rfl).set 3 r.dst.base.b (⟨r.prio, ⟨⟨r.dst.base.k, r.dst.base.a, r.dst.base.b, r.src.base.c, r.src.base.d⟩, r.src.len⟩, ⟨⟨r.dst.base.k, r.dst.base.a, r.dst.base.b, r.dst.base.c, r.dst.base.d⟩, r.dst.len⟩, r.proto, r.slo, r.shi, r.dlo, r.dhi, r.tenant, r.weight, r.chain⟩ : Ru) rfl).set 4 r.dst.base.c (⟨r.prio, ⟨⟨r.dst.base.k, r.dst.base.a, r.dst.base.b, r.dst.base.c, r.src.base.d⟩, r.src.len⟩, ⟨⟨r.dst.base.k, r.dst.base.a, r.dst.base.b, r.dst.base.c, r.dst.base.d⟩, r.dst.len⟩, r.proto, r.slo, r.shi, r.dlo, r.dhi, r.tenant, r.weight, r.chain⟩ : Ru) rfl).set 5 r.dst.base.d (⟨r.prio, ⟨⟨r.dst.base.k, r.dst.base.a, r.dst.base.b, r.dst.base.c, r.dst.base.d⟩, r.src.len⟩, ⟨⟨r.dst.base.k, r.dst.base.a, r.dst.base.b, r.dst.base.c, r.dst.base.d⟩, r.dst.len⟩, r.proto, r.slo, r.shi, r.dlo, r.dhi, r.tenant, r.weight, r.chain⟩ : Ru) rfl).set 6 r.dst.len (⟨r.prio, ⟨⟨r.dst.base.k, r.dst.base.a, r.dst.base.b, r.dst.base.c, r.dst.base.d⟩, r.dst.len⟩, ⟨⟨r.dst.base.k, r.dst.base.a, r.dst.base.b, r.dst.base.c, r.dst.base.d⟩, r.dst.len⟩, r.proto, r.slo, r.shi, r.dlo, r.dhi, r.tenant, r.weight, r.chain⟩ : Ru) rfl)
    clear D5 c7 d1 f1 c8 d2 f2 c9 d3 f3 c10 d4 f4 c11 d5 f5 c12 d6 f6
    generalize (((((w5.setCell ⟨b5, 1, none⟩ (.int .i64 r.dst.base.k)).setCell ⟨b5, 2, none⟩ (.int .i64 r.dst.base.a)).setCell ⟨b5, 3, none⟩ (.int .i64 r.dst.base.b)).setCell ⟨b5, 4, none⟩ (.int .i64 r.dst.base.c)).setCell ⟨b5, 5, none⟩ (.int .i64 r.dst.base.d)).setCell ⟨b5, 6, none⟩ (.int .i64 r.dst.len) = w6 at D6 ⊢
    have c1 := K.cell D6.out.p3 1 _ rfl
    have d7 := K.cell D6.out.p5 7 _ rfl
    have f7 := frozen_of_row _ _ 7 _ _ D6.out.p5
    have c2 := K.cell D6.out.p3 2 _ rfl
    have d8 := K.cell D6.out.p5 8 _ rfl
    have f8 := frozen_of_row _ _ 8 _ _ D6.out.p5
    have c3 := K.cell D6.out.p3 3 _ rfl
    have d9 := K.cell D6.out.p5 9 _ rfl
    have f9 := frozen_of_row _ _ 9 _ _ D6.out.p5
    have c4 := K.cell D6.out.p3 4 _ rfl
    have d10 := K.cell D6.out.p5 10 _ rfl
    have f10 := frozen_of_row _ _ 10 _ _ D6.out.p5
    have c5 := K.cell D6.out.p3 5 _ rfl
    have d11 := K.cell D6.out.p5 11 _ rfl
    have f11 := frozen_of_row _ _ 11 _ _ D6.out.p5
    have c6 := K.cell D6.out.p3 6 _ rfl
    have d12 := K.cell D6.out.p5 12 _ rfl
    have f12 := frozen_of_row _ _ 12 _ _ D6.out.p5
    go_upto_region 9 with fail
    have D7 : Hid (TK w b3 (b3 + 1) b5 r k (⟨r.prio, ⟨⟨r.dst.base.k, r.dst.base.a, r.dst.base.b, r.dst.base.c, r.dst.base.d⟩, r.dst.len⟩, ⟨⟨r.src.base.k, r.src.base.a, r.src.base.b, r.src.base.c, r.src.base.d⟩, r.src.len⟩, r.proto, r.slo, r.shi, r.dlo, r.dhi, r.tenant, r.weight, r.chain⟩ : Ru) ((((((w6.setCell ⟨b5, 7, none⟩ (.int .i64 r.src.base.k)).setCell ⟨b5, 8, none⟩ (.int .i64 r.src.base.a)).setCell ⟨b5, 9, none⟩ (.int .i64 r.src.base.b)).setCell ⟨b5, 10, none⟩ (.int .i64 r.src.base.c)).setCell ⟨b5, 11, none⟩ (.int .i64 r.src.base.d)).setCell ⟨b5, 12, none⟩ (.int .i64 r.src.len))) := Lib.hid ((((((D6.out.set 7 r.src.base.k (⟨r.prio, ⟨⟨r.dst.base.k, r.dst.base.a, r.dst.base.b, r.dst.base.c, r.dst.base.d⟩, r.dst.len⟩, ⟨⟨r.src.base.k, r.dst.base.a, r.dst.base.b, r.dst.base.c, r.dst.base.d⟩, r.dst.len⟩, r.proto, r.slo, r.shi, r.dlo, r.dhi, r.tenant, r.weight, r.chain⟩ : Ru) rfl).set 8 r.src.base.a (⟨r.prio, ⟨⟨r.dst.base.k, r.dst.base.a, r.dst.base.b, r.dst.base.c, r.dst.base.d⟩, r.dst.len⟩, ⟨⟨r.src.base.k, r.src.base.a, r.dst.base.b, r.dst.base.c, r.dst.base.d⟩, r.dst.len⟩, r.proto, r.slo, r.shi, r.dlo, r.dhi, r.tenant, r.weight, r.chain⟩ : Ru) rfl).set 9 r.src.base.b (⟨r.prio, ⟨⟨r.dst.base.k, r.dst.base.a, r.dst.base.b, r.dst.base.c, r.dst.base.d⟩, r.dst.len⟩, ⟨⟨r.src.base.k, r.src.base.a, r.src.base.b, r.dst.base.c, r.dst.base.d⟩, r.dst.len⟩, r.proto, r.slo, r.shi, r.dlo, r.dhi, r.tenant, r.weight, r.chain⟩ : Ru) rfl).set 10 r.src.base.c (⟨r.prio, ⟨⟨r.dst.base.k, r.dst.base.a, r.dst.base.b, r.dst.base.c, r.dst.base.d⟩, r.dst.len⟩, ⟨⟨r.src.base.k, r.src.base.a, r.src.base.b, r.src.base.c, r.dst.base.d⟩, r.dst.len⟩, r.proto, r.slo, r.shi, r.dlo, r.dhi, r.tenant, r.weight, r.chain⟩ : Ru) rfl).set 11 r.src.base.d (⟨r.prio, ⟨⟨r.dst.base.k, r.dst.base.a, r.dst.base.b, r.dst.base.c, r.dst.base.d⟩, r.dst.len⟩, ⟨⟨r.src.base.k, r.src.base.a, r.src.base.b, r.src.base.c, r.src.base.d⟩, r.dst.len⟩, r.proto, r.slo, r.shi, r.dlo, r.dhi, r.tenant, r.weight, r.chain⟩ : Ru) rfl).set 12 r.src.len (⟨r.prio, ⟨⟨r.dst.base.k, r.dst.base.a, r.dst.base.b, r.dst.base.c, r.dst.base.d⟩, r.dst.len⟩, ⟨⟨r.src.base.k, r.src.base.a, r.src.base.b, r.src.base.c, r.src.base.d⟩, r.src.len⟩, r.proto, r.slo, r.shi, r.dlo, r.dhi, r.tenant, r.weight, r.chain⟩ : Ru) rfl)
    clear D6 c1 d7 f7 c2 d8 f8 c3 d9 f9 c4 d10 f10 c5 d11 f11 c6 d12 f12
    generalize (((((w6.setCell ⟨b5, 7, none⟩ (.int .i64 r.src.base.k)).setCell ⟨b5, 8, none⟩ (.int .i64 r.src.base.a)).setCell ⟨b5, 9, none⟩ (.int .i64 r.src.base.b)).setCell ⟨b5, 10, none⟩ (.int .i64 r.src.base.c)).setCell ⟨b5, 11, none⟩ (.int .i64 r.src.base.d)).setCell ⟨b5, 12, none⟩ (.int .i64 r.src.len) = w7 at D7 ⊢
    have c16 := K.cell D7.out.p3 16 _ rfl
    have d14 := K.cell D7.out.p5 14 _ rfl
    have f14 := frozen_of_row _ _ 14 _ _ D7.out.p5
    go_upto_region 10 with fail
    have D8 : Hid (TK w b3 (b3 + 1) b5 r k (⟨r.prio, ⟨⟨r.dst.base.k, r.dst.base.a, r.dst.base.b, r.dst.base.c, r.dst.base.d⟩, r.dst.len⟩, ⟨⟨r.src.base.k, r.src.base.a, r.src.base.b, r.src.base.c, r.src.base.d⟩, r.src.len⟩, r.proto, r.dlo, r.shi, r.dlo, r.dhi, r.tenant, r.weight, r.chain⟩ : Ru) (w7.setCell ⟨b5, 14, none⟩ (.int .i64 r.dlo))) := Lib.hid (D7.out.set 14 r.dlo (⟨r.prio, ⟨⟨r.dst.base.k, r.dst.base.a, r.dst.base.b, r.dst.base.c, r.dst.base.d⟩, r.dst.len⟩, ⟨⟨r.src.base.k, r.src.base.a, r.src.base.b, r.src.base.c, r.src.base.d⟩, r.src.len⟩, r.proto, r.dlo, r.shi, r.dlo, r.dhi, r.tenant, r.weight, r.chain⟩ : Ru) rfl)
    clear D7 c16 d14 f14
    generalize w7.setCell ⟨b5, 14, none⟩ (.int .i64 r.dlo) = w8 at D8 ⊢
    have c17 := K.cell D8.out.p3 17 _ rfl
    have d15 := K.cell D8.out.p5 15 _ rfl
    have f15 := frozen_of_row _ _ 15 _ _ D8.out.p5
    go_upto_region 11 with fail
    have D9 : Hid (TK w b3 (b3 + 1) b5 r k (⟨r.prio, ⟨⟨r.dst.base.k, r.dst.base.a, r.dst.base.b, r.dst.base.c, r.dst.base.d⟩, r.dst.len⟩, ⟨⟨r.src.base.k, r.src.base.a, r.src.base.b, r.src.base.c, r.src.base.d⟩, r.src.len⟩, r.proto, r.dlo, r.dhi, r.dlo, r.dhi, r.tenant, r.weight, r.chain⟩ : Ru) (w8.setCell ⟨b5, 15, none⟩ (.int .i64 r.dhi))) := Lib.hid (D8.out.set 15 r.dhi (⟨r.prio, ⟨⟨r.dst.base.k, r.dst.base.a, r.dst.base.b, r.dst.base.c, r.dst.base.d⟩, r.dst.len⟩, ⟨⟨r.src.base.k, r.src.base.a, r.src.base.b, r.src.base.c, r.src.base.d⟩, r.src.len⟩, r.proto, r.dlo, r.dhi, r.dlo, r.dhi, r.tenant, r.weight, r.chain⟩ : Ru) rfl)
    clear D8 c17 d15 f15
    generalize w8.setCell ⟨b5, 15, none⟩ (.int .i64 r.dhi) = w9 at D9 ⊢
    have c14 := K.cell D9.out.p3 14 _ rfl
    have d16 := K.cell D9.out.p5 16 _ rfl
    have f16 := frozen_of_row _ _ 16 _ _ D9.out.p5
    go_upto_region 12 with fail
    have D10 : Hid (TK w b3 (b3 + 1) b5 r k (⟨r.prio, ⟨⟨r.dst.base.k, r.dst.base.a, r.dst.base.b, r.dst.base.c, r.dst.base.d⟩, r.dst.len⟩, ⟨⟨r.src.base.k, r.src.base.a, r.src.base.b, r.src.base.c, r.src.base.d⟩, r.src.len⟩, r.proto, r.dlo, r.dhi, r.slo, r.dhi, r.tenant, r.weight, r.chain⟩ : Ru) (w9.setCell ⟨b5, 16, none⟩ (.int .i64 r.slo))) := Lib.hid (D9.out.set 16 r.slo (⟨r.prio, ⟨⟨r.dst.base.k, r.dst.base.a, r.dst.base.b, r.dst.base.c, r.dst.base.d⟩, r.dst.len⟩, ⟨⟨r.src.base.k, r.src.base.a, r.src.base.b, r.src.base.c, r.src.base.d⟩, r.src.len⟩, r.proto, r.dlo, r.dhi, r.slo, r.dhi, r.tenant, r.weight, r.chain⟩ : Ru) rfl)
    clear D9 c14 d16 f16
    generalize w9.setCell ⟨b5, 16, none⟩ (.int .i64 r.slo) = w10 at D10 ⊢
    have c15 := K.cell D10.out.p3 15 _ rfl
    have d17 := K.cell D10.out.p5 17 _ rfl
    have f17 := frozen_of_row _ _ 17 _ _ D10.out.p5
    go_upto_region 13 with fail
    have D11 : Hid (TK w b3 (b3 + 1) b5 r k (⟨r.prio, ⟨⟨r.dst.base.k, r.dst.base.a, r.dst.base.b, r.dst.base.c, r.dst.base.d⟩, r.dst.len⟩, ⟨⟨r.src.base.k, r.src.base.a, r.src.base.b, r.src.base.c, r.src.base.d⟩, r.src.len⟩, r.proto, r.dlo, r.dhi, r.slo, r.shi, r.tenant, r.weight, r.chain⟩ : Ru) (w10.setCell ⟨b5, 17, none⟩ (.int .i64 r.shi))) := Lib.hid (D10.out.set 17 r.shi (⟨r.prio, ⟨⟨r.dst.base.k, r.dst.base.a, r.dst.base.b, r.dst.base.c, r.dst.base.d⟩, r.dst.len⟩, ⟨⟨r.src.base.k, r.src.base.a, r.src.base.b, r.src.base.c, r.src.base.d⟩, r.src.len⟩, r.proto, r.dlo, r.dhi, r.slo, r.shi, r.tenant, r.weight, r.chain⟩ : Ru) rfl)
    clear D10 c15 d17 f17
    generalize w10.setCell ⟨b5, 17, none⟩ (.int .i64 r.shi) = w11 at D11 ⊢
    have E11 : Hid (TK w b3 (b3 + 1) b5 r k r.swap w11) := D11
    clear D11
    generalize r.swap = s at *
    go_wp2_with (with_reducible refine loadK rfl _ rfl (b3 + 1) rfl E11.out.p4 ?_)
    refine Calls.mono (turnedIB k t HT.out _) ?_
    rintro e w12 ⟨rfl, b12⟩
    have E12 := Lib.hid (E11.out.below b12)
    clear b12 E11
    have T12 := Lib.hid (K.new w12 (.cells #[.int .i64 t.src.k, .int .i64 t.src.a, .int .i64 t.src.b, .int .i64 t.src.c, .int .i64 t.src.d, .int .i64 t.dst.k, .int .i64 t.dst.a, .int .i64 t.dst.b, .int .i64 t.dst.c, .int .i64 t.dst.d, .int .i64 t.proto, .int .i64 t.sport, .int .i64 t.dport] 55))
    have E13 := Lib.hid (E12.out.below (Joins.below_alloc1 w12 (.cells #[.int .i64 t.src.k, .int .i64 t.src.a, .int .i64 t.src.b, .int .i64 t.src.c, .int .i64 t.src.d, .int .i64 t.dst.k, .int .i64 t.dst.a, .int .i64 t.dst.b, .int .i64 t.dst.c, .int .i64 t.dst.d, .int .i64 t.proto, .int .i64 t.sport, .int .i64 t.dport] 55)))
    go_upto_region 14 with (with_reducible refine storeNewKy rfl _ _ rfl rfl rfl ?_)
    generalize w12.alloc (.cells #[.int .i64 t.src.k, .int .i64 t.src.a, .int .i64 t.src.b, .int .i64 t.src.c, .int .i64 t.src.d, .int .i64 t.dst.k, .int .i64 t.dst.a, .int .i64 t.dst.b, .int .i64 t.dst.c, .int .i64 t.dst.d, .int .i64 t.proto, .int .i64 t.sport, .int .i64 t.dport] 55) = w13 at T12 E13 ⊢
    generalize hB : w12.heap.size = b6 at *
    clear hB E12
    go_wp2_with fail
    refine wp_region_guards (by kernel_rfl) 12 55 [(0, 42), (1, 43), (2, 44), (3, 45), (4, 46), (5, 47), (6, 48), (7, 49), (8, 50), (9, 51), (10, 52), (11, 53)] _ ([.val (.agg #[.int .i64 t.src.k, .int .i64 t.src.a, .int .i64 t.src.b, .int .i64 t.src.c, .int .i64 t.src.d, .int .i64 t.dst.k, .int .i64 t.dst.a, .int .i64 t.dst.b, .int .i64 t.dst.c, .int .i64 t.dst.d, .int .i64 t.proto, .int .i64 t.sport, .int .i64 t.dport]), .val (.agg #[.int .i64 k.src.k, .int .i64 k.src.a, .int .i64 k.src.b, .int .i64 k.src.c, .int .i64 k.src.d, .int .i64 k.dst.k, .int .i64 k.dst.a, .int .i64 k.dst.b, .int .i64 k.dst.c, .int .i64 k.dst.d, .int .i64 k.proto, .int .i64 k.sport, .int .i64 k.dport]), .val (.agg #[.int .i64 k.src.k, .int .i64 k.src.a, .int .i64 k.src.b, .int .i64 k.src.c, .int .i64 k.src.d, .int .i64 k.dst.k, .int .i64 k.dst.a, .int .i64 k.dst.b, .int .i64 k.dst.c, .int .i64 k.dst.d, .int .i64 k.proto, .int .i64 k.sport, .int .i64 k.dport]), .bit true, .bit true, .val (.agg #[.int .i64 s.prio, .int .i64 s.src.base.k, .int .i64 s.src.base.a, .int .i64 s.src.base.b, .int .i64 s.src.base.c, .int .i64 s.src.base.d, .int .i64 s.src.len, .int .i64 s.dst.base.k, .int .i64 s.dst.base.a, .int .i64 s.dst.base.b, .int .i64 s.dst.base.c, .int .i64 s.dst.base.d, .int .i64 s.dst.len, .int .i64 s.proto, .int .i64 s.slo, .int .i64 s.shi, .int .i64 s.dlo, .int .i64 s.dhi, .int .i64 s.tenant, .int .i64 s.weight, .int .i64 s.chain]), .val (.agg #[.int .i64 t.src.k, .int .i64 t.src.a, .int .i64 t.src.b, .int .i64 t.src.c, .int .i64 t.src.d, .int .i64 t.dst.k, .int .i64 t.dst.a, .int .i64 t.dst.b, .int .i64 t.dst.c, .int .i64 t.dst.d, .int .i64 t.proto, .int .i64 t.sport, .int .i64 t.dport]), .val (.bool vb), .val (.agg #[.int .i64 r.prio, .int .i64 r.src.base.k, .int .i64 r.src.base.a, .int .i64 r.src.base.b, .int .i64 r.src.base.c, .int .i64 r.src.base.d, .int .i64 r.src.len, .int .i64 r.dst.base.k, .int .i64 r.dst.base.a, .int .i64 r.dst.base.b, .int .i64 r.dst.base.c, .int .i64 r.dst.base.d, .int .i64 r.dst.len, .int .i64 r.proto, .int .i64 r.slo, .int .i64 r.shi, .int .i64 r.dlo, .int .i64 r.dhi, .int .i64 r.tenant, .int .i64 r.weight, .int .i64 r.chain]), .val (.agg #[.int .i64 k.src.k, .int .i64 k.src.a, .int .i64 k.src.b, .int .i64 k.src.c, .int .i64 k.src.d, .int .i64 k.dst.k, .int .i64 k.dst.a, .int .i64 k.dst.b, .int .i64 k.dst.c, .int .i64 k.dst.d, .int .i64 k.proto, .int .i64 k.sport, .int .i64 k.dport]), .val (.bool vb), .val (.bool true)]) (by kernel_rfl) (by kernel_rfl) (by kernel_rfl) rfl rfl ?_ ?_
    · intro j o hj ho hr a' v K' hx hnd hB hK
      match j, hj, ho, hr with
      | 0, _, ho, _ =>
        obtain rfl := Option.some.inj ho
        have h0 : a'.eval (.tmp 6) = .pointer (some ⟨b6, 0, none⟩) := (hx 6 (by decide)).trans rfl
        exact t_ldK _ b6 t rfl h0 (K.below hB T12.out) (hK _ _ rfl (Below.refl _ _))
      | 1, _, ho, _ =>
        obtain rfl := Option.some.inj ho
        have h0 : a'.eval (.tmp 42) = .agg #[.int .i64 t.src.k, .int .i64 t.src.a, .int .i64 t.src.b, .int .i64 t.src.c, .int .i64 t.src.d, .int .i64 t.dst.k, .int .i64 t.dst.a, .int .i64 t.dst.b, .int .i64 t.dst.c, .int .i64 t.dst.d, .int .i64 t.proto, .int .i64 t.sport, .int .i64 t.dport] := (gds_of hnd 0 42 (by kernel_rfl) :)
        refine u_turnT _ _ _ rfl h0 (Calls.mono (turnedIB t k HU.out _) ?_)
        rintro e' v' ⟨rfl, b6⟩
        exact ⟨_, rfl, hK _ _ rfl b6⟩
      | 2, _, ho, _ =>
        obtain rfl := Option.some.inj ho
        have h0 : a'.eval (.tmp 4) = .pointer (some ⟨b3 + 1, 0, none⟩) := (hx 4 (by decide)).trans rfl
        exact t_ldK _ (b3 + 1) k rfl h0 (K.below hB E13.out.p4) (hK _ _ rfl (Below.refl _ _))
      | 3, _, ho, _ =>
        obtain rfl := Option.some.inj ho
        have h0 : a'.eval (.tmp 43) = .agg #[.int .i64 k.src.k, .int .i64 k.src.a, .int .i64 k.src.b, .int .i64 k.src.c, .int .i64 k.src.d, .int .i64 k.dst.k, .int .i64 k.dst.a, .int .i64 k.dst.b, .int .i64 k.dst.c, .int .i64 k.dst.d, .int .i64 k.proto, .int .i64 k.sport, .int .i64 k.dport] := (gds_of hnd 1 43 (by kernel_rfl) :)
        have h1 : a'.eval (.tmp 44) = .agg #[.int .i64 k.src.k, .int .i64 k.src.a, .int .i64 k.src.b, .int .i64 k.src.c, .int .i64 k.src.d, .int .i64 k.dst.k, .int .i64 k.dst.a, .int .i64 k.dst.b, .int .i64 k.dst.c, .int .i64 k.dst.d, .int .i64 k.proto, .int .i64 k.sport, .int .i64 k.dport] := (gds_of hnd 2 44 (by kernel_rfl) :)
        exact t_eqK _ _ k rfl h0 h1 (hK _ _ rfl (Below.refl _ _))
      | 4, _, ho, _ =>
        obtain rfl := Option.some.inj ho
        have h0 : a'.eval (.tmp 45) = .bool true := (gds_of hnd 3 45 (by kernel_rfl) :)
        exact t_mv _ _ rfl h0 (hK _ _ rfl (Below.refl _ _))
      | 5, _, ho, _ =>
        obtain rfl := Option.some.inj ho
        have h0 : a'.eval (.tmp 5) = .pointer (some ⟨b5, 0, none⟩) := (hx 5 (by decide)).trans rfl
        exact t_ldR _ b5 s rfl h0 (K.below hB E13.out.p5) (hK _ _ rfl (Below.refl _ _))
      | 6, _, ho, _ =>
        obtain rfl := Option.some.inj ho
        have h0 : a'.eval (.tmp 6) = .pointer (some ⟨b6, 0, none⟩) := (hx 6 (by decide)).trans rfl
        exact t_ldK _ b6 t rfl h0 (K.below hB T12.out) (hK _ _ rfl (Below.refl _ _))
      | 7, _, ho, _ =>
        obtain rfl := Option.some.inj ho
        have h0 : a'.eval (.tmp 47) = .agg #[.int .i64 s.prio, .int .i64 s.src.base.k, .int .i64 s.src.base.a, .int .i64 s.src.base.b, .int .i64 s.src.base.c, .int .i64 s.src.base.d, .int .i64 s.src.len, .int .i64 s.dst.base.k, .int .i64 s.dst.base.a, .int .i64 s.dst.base.b, .int .i64 s.dst.base.c, .int .i64 s.dst.base.d, .int .i64 s.dst.len, .int .i64 s.proto, .int .i64 s.slo, .int .i64 s.shi, .int .i64 s.dlo, .int .i64 s.dhi, .int .i64 s.tenant, .int .i64 s.weight, .int .i64 s.chain] := (gds_of hnd 5 47 (by kernel_rfl) :)
        have h1 : a'.eval (.tmp 48) = .agg #[.int .i64 t.src.k, .int .i64 t.src.a, .int .i64 t.src.b, .int .i64 t.src.c, .int .i64 t.src.d, .int .i64 t.dst.k, .int .i64 t.dst.a, .int .i64 t.dst.b, .int .i64 t.dst.c, .int .i64 t.dst.d, .int .i64 t.proto, .int .i64 t.sport, .int .i64 t.dport] := (gds_of hnd 6 48 (by kernel_rfl) :)
        refine u_hasTI _ _ _ _ _ rfl h0 h1 (Calls.mono (ruleHasIB s t vb HW.out _) ?_)
        rintro e' v' ⟨rfl, b6⟩
        exact ⟨_, rfl, hK _ _ rfl b6⟩
      | 8, _, ho, _ =>
        obtain rfl := Option.some.inj ho
        have h0 : a'.eval (.tmp 3) = .pointer (some ⟨b3, 0, none⟩) := (hx 3 (by decide)).trans rfl
        exact t_ldR _ b3 r rfl h0 (K.below hB E13.out.p3) (hK _ _ rfl (Below.refl _ _))
      | 9, _, ho, _ =>
        obtain rfl := Option.some.inj ho
        have h0 : a'.eval (.tmp 4) = .pointer (some ⟨b3 + 1, 0, none⟩) := (hx 4 (by decide)).trans rfl
        exact t_ldK _ (b3 + 1) k rfl h0 (K.below hB E13.out.p4) (hK _ _ rfl (Below.refl _ _))
      | 10, _, ho, _ =>
        obtain rfl := Option.some.inj ho
        have h0 : a'.eval (.tmp 50) = .agg #[.int .i64 r.prio, .int .i64 r.src.base.k, .int .i64 r.src.base.a, .int .i64 r.src.base.b, .int .i64 r.src.base.c, .int .i64 r.src.base.d, .int .i64 r.src.len, .int .i64 r.dst.base.k, .int .i64 r.dst.base.a, .int .i64 r.dst.base.b, .int .i64 r.dst.base.c, .int .i64 r.dst.base.d, .int .i64 r.dst.len, .int .i64 r.proto, .int .i64 r.slo, .int .i64 r.shi, .int .i64 r.dlo, .int .i64 r.dhi, .int .i64 r.tenant, .int .i64 r.weight, .int .i64 r.chain] := (gds_of hnd 8 50 (by kernel_rfl) :)
        have h1 : a'.eval (.tmp 51) = .agg #[.int .i64 k.src.k, .int .i64 k.src.a, .int .i64 k.src.b, .int .i64 k.src.c, .int .i64 k.src.d, .int .i64 k.dst.k, .int .i64 k.dst.a, .int .i64 k.dst.b, .int .i64 k.dst.c, .int .i64 k.dst.d, .int .i64 k.proto, .int .i64 k.sport, .int .i64 k.dport] := (gds_of hnd 9 51 (by kernel_rfl) :)
        refine u_hasTS _ _ _ _ _ rfl h0 h1 (Calls.mono (ruleHasSB r k vb HV.out _) ?_)
        rintro e' v' ⟨rfl, b6⟩
        exact ⟨_, rfl, hK _ _ rfl b6⟩
      | 11, _, ho, _ =>
        obtain rfl := Option.some.inj ho
        have h0 : a'.eval (.tmp 49) = .bool vb := (gds_of hnd 7 49 (by kernel_rfl) :)
        have h1 : a'.eval (.tmp 52) = .bool vb := (gds_of hnd 10 52 (by kernel_rfl) :)
        exact t_eqB _ _ vb rfl h0 h1 (hK _ _ rfl (Below.refl _ _))
      | j + 12, hj, _, _ => omega
    · intro f v hf hB
      have e0 : f 0 = (.agg #[.int .i64 t.src.k, .int .i64 t.src.a, .int .i64 t.src.b, .int .i64 t.src.c, .int .i64 t.src.d, .int .i64 t.dst.k, .int .i64 t.dst.a, .int .i64 t.dst.b, .int .i64 t.dst.c, .int .i64 t.dst.d, .int .i64 t.proto, .int .i64 t.sport, .int .i64 t.dport]) := hf (0, 42) (by decide)
      have e1 : f 1 = (.agg #[.int .i64 k.src.k, .int .i64 k.src.a, .int .i64 k.src.b, .int .i64 k.src.c, .int .i64 k.src.d, .int .i64 k.dst.k, .int .i64 k.dst.a, .int .i64 k.dst.b, .int .i64 k.dst.c, .int .i64 k.dst.d, .int .i64 k.proto, .int .i64 k.sport, .int .i64 k.dport]) := hf (1, 43) (by decide)
      have e2 : f 2 = (.agg #[.int .i64 k.src.k, .int .i64 k.src.a, .int .i64 k.src.b, .int .i64 k.src.c, .int .i64 k.src.d, .int .i64 k.dst.k, .int .i64 k.dst.a, .int .i64 k.dst.b, .int .i64 k.dst.c, .int .i64 k.dst.d, .int .i64 k.proto, .int .i64 k.sport, .int .i64 k.dport]) := hf (2, 44) (by decide)
      have e3 : f 3 = (.bool true) := hf (3, 45) (by decide)
      have e4 : f 4 = (.bool true) := hf (4, 46) (by decide)
      have e5 : f 5 = (.agg #[.int .i64 s.prio, .int .i64 s.src.base.k, .int .i64 s.src.base.a, .int .i64 s.src.base.b, .int .i64 s.src.base.c, .int .i64 s.src.base.d, .int .i64 s.src.len, .int .i64 s.dst.base.k, .int .i64 s.dst.base.a, .int .i64 s.dst.base.b, .int .i64 s.dst.base.c, .int .i64 s.dst.base.d, .int .i64 s.dst.len, .int .i64 s.proto, .int .i64 s.slo, .int .i64 s.shi, .int .i64 s.dlo, .int .i64 s.dhi, .int .i64 s.tenant, .int .i64 s.weight, .int .i64 s.chain]) := hf (5, 47) (by decide)
      have e6 : f 6 = (.agg #[.int .i64 t.src.k, .int .i64 t.src.a, .int .i64 t.src.b, .int .i64 t.src.c, .int .i64 t.src.d, .int .i64 t.dst.k, .int .i64 t.dst.a, .int .i64 t.dst.b, .int .i64 t.dst.c, .int .i64 t.dst.d, .int .i64 t.proto, .int .i64 t.sport, .int .i64 t.dport]) := hf (6, 48) (by decide)
      have e7 : f 7 = (.bool vb) := hf (7, 49) (by decide)
      have e8 : f 8 = (.agg #[.int .i64 r.prio, .int .i64 r.src.base.k, .int .i64 r.src.base.a, .int .i64 r.src.base.b, .int .i64 r.src.base.c, .int .i64 r.src.base.d, .int .i64 r.src.len, .int .i64 r.dst.base.k, .int .i64 r.dst.base.a, .int .i64 r.dst.base.b, .int .i64 r.dst.base.c, .int .i64 r.dst.base.d, .int .i64 r.dst.len, .int .i64 r.proto, .int .i64 r.slo, .int .i64 r.shi, .int .i64 r.dlo, .int .i64 r.dhi, .int .i64 r.tenant, .int .i64 r.weight, .int .i64 r.chain]) := hf (8, 50) (by decide)
      have e9 : f 9 = (.agg #[.int .i64 k.src.k, .int .i64 k.src.a, .int .i64 k.src.b, .int .i64 k.src.c, .int .i64 k.src.d, .int .i64 k.dst.k, .int .i64 k.dst.a, .int .i64 k.dst.b, .int .i64 k.dst.c, .int .i64 k.dst.d, .int .i64 k.proto, .int .i64 k.sport, .int .i64 k.dport]) := hf (9, 51) (by decide)
      have e10 : f 10 = (.bool vb) := hf (10, 52) (by decide)
      have e11 : f 11 = (.bool true) := hf (11, 53) (by decide)
      simp only [List.foldl_cons, List.foldl_nil, List.drop_succ_cons, List.drop_zero, e0, e1, e2, e3, e4, e5, e6, e7, e8, e9, e10, e11]
      clear e0 e1 e2 e3 e4 e5 e6 e7 e8 e9 e10 e11 hf
      go_simp
      have BZ := Lib.hid (bthen E13.out.bel hB)
      clear hB
      go_wp2
      go_ret
      exact ⟨rfl, BZ.out⟩

namespace fnTurnedKey
open Go.ChangeShapes Go.WideShapes Go.ChangeAt Go.RowKit
open Go.ChangeMaps (open_string shut_string)
theorem own : ownKnob Try.prog.godebug = none := by kernel_rfl
theorem laidOut : laidOutB Try.prog = true := by kernel_rfl

set_option maxRecDepth 100000 in
theorem lifted (os : Os) (started : os.Started) (H : Type) (enc : TypeId × Value → H) :
    ReturnsInHanded {} Try.checked os 7 .any (Rows.fnTurnedKeySpec.pre6 enc Try.prog Try.f7 Rows.fnTurnedKeyRow.domain false) (Rows.fnTurnedKeySpec.post enc Try.prog Try.f7 false true false false) := by
  refine returnsInHanded_of_change (C := Try.checked) own started (by kernel_rfl) Try.func7
    (ChangeSpec.witness6 (enc := enc) (C := Try.checked) false ⟨#[], #[.slice none 0 0], []⟩ 8 (by kernel_rfl) (by kernel_rfl) (by kernel_rfl) (by kernel_rfl)) ?_
  intro W base args ds gs before hval0 hW _ _
  have hval : ∀ (j : Nat) t v, Try.f7.params[j]? = some t → args[j]? = some v → Value.okWide Try.prog W .any base t v := hval0
  have hW' := hW
  obtain ⟨p, q, hA0, hV, rfl, _, _⟩ := hW
  have hA : DataW.TrodAll enc Try.prog W 0 (fun _ => true) true Try.f7.params.toList args.toList ds p := hA0
  rw [Try.params7] at hA hval
  obtain ⟨v0, vs0, d0, ds0, p0, q0, hargs, rfl, rfl, h0, r0⟩ := trodAll_cons hA
  obtain ⟨rfl, rfl, rfl⟩ := trodAll_nil r0
  obtain rfl : args = #[v0] := by cases args; simp_all
  obtain ⟨rfl, rfl⟩ := trodVars_none hV
  obtain ⟨a0, n0, c0, rfl⟩ := okWide_slice Try.underlying50 (hval 0 50 v0 rfl rfl)
  have k0 := h0
  have lt0 : ∀ x ∈ p0, x.block < W.heap.size := by obtain ⟨m, hm⟩ := k0; exact DataW.trod_lt m _ _ _ hm
  obtain ⟨b0, w0⟩ := bytes_in h0
  clear hA0 hval0
  refine (lawTurnedKey a0 n0 c0 b0 w0).mono fun e W' ⟨he, bel⟩ => ?_
  subst he
  exact ⟨_, rfl, _, _, _, [], _, [], hW', trodAll_mk1 (shut_bool Try.underlying4 _), (trodAll_cons_mk (Below.trod laidOut (by kernel_rfl) (of_decide_eq_true (by kernel_rfl)) k0 bel lt0) trodAll_mk0), rfl, bel.frame _, fun h => by cases h⟩

theorem proved : Rows.FnTurnedKeySaid :=
  OpenClaim.holds_of_wide 7 Try.f7 rfl rfl rfl rfl rfl rfl rfl ⟨rfl, rfl, rfl, rfl, rfl⟩ rfl rfl rfl rfl rfl (by kernel_rfl) Try.func7 (by kernel_rfl)
    (of_decide_eq_true (by kernel_rfl)) (by unfold Func.isWrapper; rw [if_neg (of_decide_eq_false (by kernel_rfl))]; exact ⟨rfl, rfl⟩)
    (fun os started H enc _ => lifted os started H enc)
#print axioms proved
end fnTurnedKey
end Go.Proofs.Ytdndanbalmoklaa
