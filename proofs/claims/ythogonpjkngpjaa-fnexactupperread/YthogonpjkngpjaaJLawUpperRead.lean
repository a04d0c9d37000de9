/-
  UpperRead answers as its model. The law FnExactUpperRead holds at all bytes, every protocol and every two addresses: no condition; the arguments read afterwards as before.
-/
import Derived.Test.YthogonpjkngpjaaRows
import Derived.Test.YthogonpjkngpjaaRa01
import Derived.Test.YthogonpjkngpjaaRa03
import Derived.Test.YthogonpjkngpjaaRa11
import Derived.Test.YthogonpjkngpjaaRa12
import Derived.ShutString
namespace Go.Proofs.Ythogonpjkngpjaa
set_option maxRecDepth 100000
open Go.RowKit

section
variable {o : Oper} {a : Act} {w : World} {K : Act → World → Prop} {Q : Exit → Act → World → Prop}
theorem u_toAddrR (x : Operand) (x0 : Value) (ts : Array TypeId) (ho : o.op = .call { callee := .value (.func 17), args := #[x], argTypes := ts }) (h0 : a.eval x = x0)
    (h : Calls Try.prog 17 #[x0] w fun e w' => ∃ v, e = .returned v ∧ K (a.put o.dst v) w') : o.wp Try.prog a w K Q := by
  unfold Oper.wp execOp
  simp only [ho, resolve, List.map_toArray, List.map_cons, List.map_nil, h0, show ∀ f, a.eval (.func f) = .func (.func f) #[] #[] from fun _ => rfl]
  go_simp
  exact h.mono fun e w' ⟨u, he, hk⟩ => by subst he; exact hk
theorem u_toBytesR (x : Operand) (x0 : Value) (ts : Array TypeId) (ho : o.op = .call { callee := .value (.func 16), args := #[x], argTypes := ts }) (h0 : a.eval x = x0)
    (h : Calls Try.prog 16 #[x0] w fun e w' => ∃ v, e = .returned v ∧ K (a.put o.dst v) w') : o.wp Try.prog a w K Q := by
  unfold Oper.wp execOp
  simp only [ho, resolve, List.map_toArray, List.map_cons, List.map_nil, h0, show ∀ f, a.eval (.func f) = .func (.func f) #[] #[] from fun _ => rfl]
  go_simp
  exact h.mono fun e w' ⟨u, he, hk⟩ => by subst he; exact hk
theorem u_specR (x y z u : Operand) (x0 x1 x2 x3 : Value) (ts : Array TypeId) (ho : o.op = .call { callee := .value (.func 15), args := #[x, y, z, u], argTypes := ts }) (h0 : a.eval x = x0) (h1 : a.eval y = x1) (h2 : a.eval z = x2) (h3 : a.eval u = x3)
    (h : Calls Try.prog 15 #[x0, x1, x2, x3] w fun e w' => ∃ v, e = .returned v ∧ K (a.put o.dst v) w') : o.wp Try.prog a w K Q := by
  unfold Oper.wp execOp
  simp only [ho, resolve, List.map_toArray, List.map_cons, List.map_nil, h0, h1, h2, h3, show ∀ f, a.eval (.func f) = .func (.func f) #[] #[] from fun _ => rfl]
  go_simp
  exact h.mono fun e w' ⟨u, he, hk⟩ => by subst he; exact hk
theorem u_implR (x y z u : Operand) (x0 x1 x2 x3 : Value) (ts : Array TypeId) (ho : o.op = .call { callee := .value (.func 18), args := #[x, y, z, u], argTypes := ts }) (h0 : a.eval x = x0) (h1 : a.eval y = x1) (h2 : a.eval z = x2) (h3 : a.eval u = x3)
    (h : Calls Try.prog 18 #[x0, x1, x2, x3] w fun e w' => ∃ v, e = .returned v ∧ K (a.put o.dst v) w') : o.wp Try.prog a w K Q := by
  unfold Oper.wp execOp
  simp only [ho, resolve, List.map_toArray, List.map_cons, List.map_nil, h0, h1, h2, h3, show ∀ f, a.eval (.func f) = .func (.func f) #[] #[] from fun _ => rfl]
  go_simp
  exact h.mono fun e w' ⟨u, he, hk⟩ => by subst he; exact hk
theorem u_ext0 (x : Operand) (u v : Value) (ho : o.op = .extract x 0) (hx : a.eval x = .tuple #[u, v]) (hK : K (a.put o.dst u) w) : o.wp Try.prog a w K Q := by
  unfold Oper.wp execOp
  simp only [ho, hx]
  go_simp
  exact hK
theorem u_ext1 (x : Operand) (u v : Value) (ho : o.op = .extract x 1) (hx : a.eval x = .tuple #[u, v]) (hK : K (a.put o.dst v) w) : o.wp Try.prog a w K Q := by
  unfold Oper.wp execOp
  simp only [ho, hx]
  go_simp
  exact hK
theorem u_asg (x : Operand) (u : Value) (ho : o.op = .assign x) (hx : a.eval x = u) (hK : K (a.put o.dst u) w) : o.wp Try.prog a w K Q := by
  unfold Oper.wp execOp
  simp only [ho, hx]
  go_simp
  exact hK
theorem u_allocR (ho : o.op = .alloc 36) (hK : K (a.put o.dst (.pointer (some ⟨w.heap.size, 0, none⟩))) (w.alloc (.cells #[.int .i64 0, .int .i64 0, .int .i64 0, .int .i64 0, .int .i64 0, .int .i64 0, .int .i64 0, .int .i64 0, .int .i64 0, .int .i64 0, .int .i64 0, .bool false, .slice none 0 0, .slice none 0 0] 36))) : o.wp Try.prog a w K Q := by
  unfold Oper.wp execOp
  simp only [ho]
  go_simp
  exact hK
end
theorem own_capR {w : World} {base n c : Nat} {e : TypeId} {A : Option Addr} {xs : List Value} (h : w.ownsRow base e 1 (.slice A n c) n xs) : n ≤ c ∧ (A = none → c = 0) := by
  rcases h.2 with ⟨h1, h2⟩ | ⟨g, cap, cur, hv, _, _, hc, _⟩
  · injection h1 with _ _ h3
    exact ⟨by omega, fun _ => h3⟩
  · injection hv with h1 _ h3
    exact ⟨by omega, fun e => by rw [e] at h1; cases h1⟩
theorem own_neR {w : World} {base n c b : Nat} {A : Option Addr} {xs : List Value} {cs : Array Value} (h : w.ownsRow base 5 1 (.slice A n c) n xs) (hb : w.heap[b]? = some (.cells cs 36 (0, 0))) : ∀ k, (Value.slice A n c).ownBlock = some k → k ≠ b := by
  intro k hk e
  subst e
  rcases h.2 with ⟨h1, _⟩ | ⟨g, cap, cur, hv, _, hh, _⟩
  · rw [h1] at hk
    simp [Value.ownBlock] at hk
  · rw [hv] at hk
    simp [Value.ownBlock] at hk
    subst hk
    rw [hh] at hb
    simp at hb
theorem own_setR {w w' : World} {base n c b : Nat} {A : Option Addr} {xs : List Value} {cs : Array Value} (hb : w.heap[b]? = some (.cells cs 36 (0, 0))) (hg : w.grownBy w' (some b)) (h : w.ownsRow base 5 1 (.slice A n c) n xs) : w'.ownsRow base 5 1 (.slice A n c) n xs :=
  own_grown h hg (fun k h1 h2 => by cases h2; exact own_neR h hb _ h1 rfl)
theorem OwnB.setR {b L : Nat} {ds : List UInt8} {cs : Array Value} (w w' : World) (v : Value) (g : Nat) (hb : w.heap[g]? = some (.cells cs 36 (0, 0))) (hg : w.grownBy w' (some g)) (h : OwnB b L ds w v) : OwnB b L ds w' v := by
  obtain ⟨A, c, e, o⟩ := h
  exact ⟨A, c, e, own_setR hb hg o⟩
/-- What reading leaves, as the first of two results. -/
def URf (t : Bool) (x : Uh) (os ds : List UInt8) (P Q : Nat) (kq : Int) (base : Nat) (w : World) (v : Value) : Prop :=
  ∃ A c D d, v = (if t then .tuple #[.agg #[.int .i64 x.kind, .int .i64 x.sport, .int .i64 x.dport, .int .i64 x.seq, .int .i64 x.ack, .int .i64 x.bits, .int .i64 x.window, .int .i64 x.urgent, .int .i64 x.ty, .int .i64 x.code, .int .i64 x.rest, .bool x.nosum, .slice A P c, .slice D Q d], .int .i64 kq] else .agg #[.int .i64 x.kind, .int .i64 x.sport, .int .i64 x.dport, .int .i64 x.seq, .int .i64 x.ack, .int .i64 x.bits, .int .i64 x.window, .int .i64 x.urgent, .int .i64 x.ty, .int .i64 x.code, .int .i64 x.rest, .bool x.nosum, .slice A P c, .slice D Q d]) ∧ w.ownsRow base 5 1 (.slice A P c) P (cellsOf os) ∧ w.ownsRow base 5 1 (.slice D Q d) Q (cellsOf ds) ∧ (∀ k, (Value.slice A P c).ownBlock = some k → (Value.slice D Q d).ownBlock ≠ some k)
theorem URf.on {t : Bool} {x : Uh} {os ds : List UInt8} {P Q : Nat} {kq : Int} {base : Nat} (w w' : World) (v : Value) (hb : Below w.heap.size w w') (h : URf t x os ds P Q kq base w v) : URf t x os ds P Q kq base w' v := by
  obtain ⟨A, c, D, d, e, o1, o2, ap⟩ := h
  exact ⟨A, c, D, d, e, own_below o1 hb, own_below o2 hb, ap⟩

theorem URf.setR {t : Bool} {x : Uh} {os ds : List UInt8} {P Q : Nat} {kq : Int} {base : Nat} {cs : Array Value} (w w' : World) (v : Value) (g : Nat) (hb : w.heap[g]? = some (.cells cs 36 (0, 0))) (hg : w.grownBy w' (some g)) (h : URf t x os ds P Q kq base w v) : URf t x os ds P Q kq base w' v := by
  obtain ⟨A, c, D, d, e, o1, o2, ap⟩ := h
  exact ⟨A, c, D, d, e, own_setR hb hg o1, own_setR hb hg o2, ap⟩
/-- The variable that holds what was read. -/
def UVar (x : Uh) (os ds : List UInt8) (P Q base : Nat) (b : Nat) (w : World) : Prop :=
  ∃ A c D d, w.heap[b]? = some (.cells #[.int .i64 x.kind, .int .i64 x.sport, .int .i64 x.dport, .int .i64 x.seq, .int .i64 x.ack, .int .i64 x.bits, .int .i64 x.window, .int .i64 x.urgent, .int .i64 x.ty, .int .i64 x.code, .int .i64 x.rest, .bool x.nosum, .slice A P c, .slice D Q d] 36 (0, 0)) ∧ w.ownsRow base 5 1 (.slice A P c) P (cellsOf os) ∧ w.ownsRow base 5 1 (.slice D Q d) Q (cellsOf ds) ∧ (∀ k, (Value.slice A P c).ownBlock = some k → (Value.slice D Q d).ownBlock ≠ some k)
theorem UVar.on {x : Uh} {os ds : List UInt8} {P Q base : Nat} (b : Nat) (w w' : World) (hb : Below w.heap.size w w') (h : UVar x os ds P Q base b w) : UVar x os ds P Q base b w' := by
  obtain ⟨A, c, D, d, r, o1, o2, ap⟩ := h
  exact ⟨A, c, D, d, K.below hb r, own_below o1 hb, own_below o2 hb, ap⟩

set_option maxHeartbeats 1000000 in
theorem lawUR_big {w : World} (A : Option Addr) (n c : Nat) (p : Int) (s t : Ad) (h : (1048576 : Int) < n) : Calls Try.prog 5 #[.slice A n c, .int .i64 p, .agg #[.int .i64 s.k, .int .i64 s.a, .int .i64 s.b, .int .i64 s.c, .int .i64 s.d], .agg #[.int .i64 t.k, .int .i64 t.a, .int .i64 t.b, .int .i64 t.c, .int .i64 t.d]] w fun e w' => e = .returned (.bool true) ∧ Below w.heap.size w w' := by
  have HB : Hid (Below w.heap.size w ((w.alloc (.cells #[.int .i64 s.k, .int .i64 s.a, .int .i64 s.b, .int .i64 s.c, .int .i64 s.d] 23)).alloc (.cells #[.int .i64 t.k, .int .i64 t.a, .int .i64 t.b, .int .i64 t.c, .int .i64 t.d] 23))) := Lib.hid (by go_grown)
  go_enter Try.func5, Try.ntmps5
  go_wp2
  go_ret
  exact ⟨rfl, HB.out⟩

theorem loadUGR {ops : Array Oper} {rest : List Oper} {o : Oper} {a : Act} {w : World} {Q : Exit → Act → World → Prop} (x : Operand) (ho : o.op = .load 36 x) (g : Nat) (hx : a.eval x = .pointer (some ⟨g, 0, none⟩)) (hw : Region.wanted o (yielded ops a.tmps) = true) {t : TypeId} {v0 v1 v2 v3 v4 v5 v6 v7 v8 v9 v10 v11 v12 v13 : Value}
    (hg : w.heap[g]? = some (.cells #[v0, v1, v2, v3, v4, v5, v6, v7, v8, v9, v10, v11, v12, v13] t (0, 0))) (h : wpList Try.prog ops Q rest (a.put o.dst (.agg #[v0, v1, v2, v3, v4, v5, v6, v7, v8, v9, v10, v11, v12, v13])) w) : wpList Try.prog ops Q (o :: rest) a w :=
  wpList_step fun _ hK => by rw [if_pos hw]; exact wp_load_row 36 x ho g hx t _ (0, 0) _ hg Try.underlying36 rfl info_up (hK _ _ h)

set_option maxHeartbeats 8000000 in
theorem lawUR_small {w : World} (A : Option Addr) (n c : Nat) (bs : List UInt8) (p : Int) (s t : Ad) (hr : RB w w.heap.size A bs) (hl : bs.length = n) (hn : n ≤ 1048576) : Calls Try.prog 5 #[.slice A n c, .int .i64 p, .agg #[.int .i64 s.k, .int .i64 s.a, .int .i64 s.b, .int .i64 s.c, .int .i64 s.d], .agg #[.int .i64 t.k, .int .i64 t.a, .int .i64 t.b, .int .i64 t.c, .int .i64 t.d]] w fun e w' => e = .returned (.bool true) ∧ Below w.heap.size w w' := by
  obtain ⟨x, hx⟩ : ∃ x, urx bs p s t = x := ⟨_, rfl⟩
  obtain ⟨os, hos⟩ : ∃ os, uro bs p s t = os := ⟨_, rfl⟩
  obtain ⟨ds, hds⟩ : ∃ ds, urb bs p s t = ds := ⟨_, rfl⟩
  obtain ⟨kq, hq⟩ : ∃ q, uhC bs p s t = q := ⟨_, rfl⟩
  obtain ⟨P, hP⟩ : ∃ m, os.length = m := ⟨_, rfl⟩
  obtain ⟨Q, hQ⟩ : ∃ m, ds.length = m := ⟨_, rfl⟩
  have hb : P ≤ 60 ∧ Q ≤ 1500 := by
    rw [← hP, ← hQ, ← hos, ← hds, uro, urb]
    split
    · rename_i h0
      have hlen : bs.length ≤ 1500 := by
        by_cases hl2 : 1500 < bs.length
        · rw [uhC_long hl2] at h0; omega
        · omega
      refine ⟨?_, ?_⟩
      · unfold uhO; split
        · have := List.length_take_le (tHead bs - 20) (bs.drop 20); have := tHead_le bs; omega
        · simp
      · unfold uhB; split
        · rw [List.length_drop]; omega
        · split
          · rw [List.length_drop]; omega
          · omega
    · simp
  obtain ⟨hbP, hbQ⟩ := hb
  have so : ∀ (D : Option Addr) (d : Nat) (v : World), RB v v.heap.size D bs → n ≤ d → Calls Try.prog 15 #[.slice D n d, .int .i64 p, .agg #[.int .i64 s.k, .int .i64 s.a, .int .i64 s.b, .int .i64 s.c, .int .i64 s.d], .agg #[.int .i64 t.k, .int .i64 t.a, .int .i64 t.b, .int .i64 t.c, .int .i64 t.d]] v fun e v' => ∃ A c D d, e = .returned (.tuple #[.agg #[.int .i64 x.kind, .int .i64 x.sport, .int .i64 x.dport, .int .i64 x.seq, .int .i64 x.ack, .int .i64 x.bits, .int .i64 x.window, .int .i64 x.urgent, .int .i64 x.ty, .int .i64 x.code, .int .i64 x.rest, .bool x.nosum, .slice A P c, .slice D Q d], .int .i64 kq]) ∧ v'.ownsRow v.heap.size 5 1 (.slice A P c) P (cellsOf os) ∧ v'.ownsRow v.heap.size 5 1 (.slice D Q d) Q (cellsOf ds) ∧ (∀ k, (Value.slice A P c).ownBlock = some k → (Value.slice D Q d).ownBlock ≠ some k) ∧ Below v.heap.size v v' := by
    intro D d v h hd
    have h := specUpperRead D n d bs p s t v h hl hn hd
    unfold URead UROut at h
    rwa [hx, hos, hds, hq, hP, hQ] at h
  have io : ∀ (D : Option Addr) (d : Nat) (v : World), RB v v.heap.size D bs → n ≤ d → (D = none → d = 0) → Calls Try.prog 18 #[.slice D n d, .int .i64 p, .agg #[.int .i64 s.k, .int .i64 s.a, .int .i64 s.b, .int .i64 s.c, .int .i64 s.d], .agg #[.int .i64 t.k, .int .i64 t.a, .int .i64 t.b, .int .i64 t.c, .int .i64 t.d]] v fun e v' => ∃ A c D d, e = .returned (.tuple #[.agg #[.int .i64 x.kind, .int .i64 x.sport, .int .i64 x.dport, .int .i64 x.seq, .int .i64 x.ack, .int .i64 x.bits, .int .i64 x.window, .int .i64 x.urgent, .int .i64 x.ty, .int .i64 x.code, .int .i64 x.rest, .bool x.nosum, .slice A P c, .slice D Q d], .int .i64 kq]) ∧ v'.ownsRow v.heap.size 5 1 (.slice A P c) P (cellsOf os) ∧ v'.ownsRow v.heap.size 5 1 (.slice D Q d) Q (cellsOf ds) ∧ (∀ k, (Value.slice A P c).ownBlock = some k → (Value.slice D Q d).ownBlock ≠ some k) ∧ Below v.heap.size v v' := by
    intro D d v h hd h0
    have h := implUpperRead D n d bs p s t v h hl hn hd h0
    unfold URead UROut at h
    rwa [hx, hos, hds, hq, hP, hQ] at h
  have SO := Lib.hid so
  have PO := Lib.hid io
  have HP := Lib.hid hP
  have HQ := Lib.hid hQ
  have HL := Lib.hid hl
  have R0 := Lib.hid hr
  have hnI : ¬ (1048576 : Int) < (n : Int) := by omega
  have hkq : (kq != kq) = false := by simp
  clear so io hx hos hds hq hP hQ hl hr
  have p0 : Hid (((w.alloc (.cells #[.int .i64 s.k, .int .i64 s.a, .int .i64 s.b, .int .i64 s.c, .int .i64 s.d] 23)).alloc (.cells #[.int .i64 t.k, .int .i64 t.a, .int .i64 t.b, .int .i64 t.c, .int .i64 t.d] 23)).heap[w.heap.size]? = some (.cells #[.int .i64 s.k, .int .i64 s.a, .int .i64 s.b, .int .i64 s.c, .int .i64 s.d] 23)) := Lib.hid (by repeat (first | exact K.newAt (by first | rfl | (simp; done)) | refine K.oldAt (by first | (simp; done) | (simp; omega)) ?_))
  have t_0 : Hid (((w.alloc (.cells #[.int .i64 s.k, .int .i64 s.a, .int .i64 s.b, .int .i64 s.c, .int .i64 s.d] 23)).alloc (.cells #[.int .i64 t.k, .int .i64 t.a, .int .i64 t.b, .int .i64 t.c, .int .i64 t.d] 23)).heap[w.heap.size + 1]? = some (.cells #[.int .i64 t.k, .int .i64 t.a, .int .i64 t.b, .int .i64 t.c, .int .i64 t.d] 23)) := Lib.hid (by repeat (first | exact K.newAt (by first | rfl | (simp; done)) | refine K.oldAt (by first | (simp; done) | (simp; omega)) ?_))
  have B0 : Hid (Below w.heap.size w ((w.alloc (.cells #[.int .i64 s.k, .int .i64 s.a, .int .i64 s.b, .int .i64 s.c, .int .i64 s.d] 23)).alloc (.cells #[.int .i64 t.k, .int .i64 t.a, .int .i64 t.b, .int .i64 t.c, .int .i64 t.d] 23))) := Lib.hid (by go_grown)
  have hz0 : ((w.alloc (.cells #[.int .i64 s.k, .int .i64 s.a, .int .i64 s.b, .int .i64 s.c, .int .i64 s.d] 23)).alloc (.cells #[.int .i64 t.k, .int .i64 t.a, .int .i64 t.b, .int .i64 t.c, .int .i64 t.d] 23)).heap.size = w.heap.size + 1 + 1 := by simp
  go_enter Try.func5, Try.ntmps5
  go_upto_region 3 with fail
  generalize ((w.alloc (.cells #[.int .i64 s.k, .int .i64 s.a, .int .i64 s.b, .int .i64 s.c, .int .i64 s.d] 23)).alloc (.cells #[.int .i64 t.k, .int .i64 t.a, .int .i64 t.b, .int .i64 t.c, .int .i64 t.d] 23)) = w0 at p0 t_0 B0 hz0 ⊢
  refine wp_region_new 36 #[.int .i64 0, .int .i64 0, .int .i64 0, .int .i64 0, .int .i64 0, .int .i64 0, .int .i64 0, .int .i64 0, .int .i64 0, .int .i64 0, .int .i64 0, .bool false, .slice none 0 0, .slice none 0 0] (by kernel_rfl) [0, 1, 6, 7] 114 [(0, 23), (1, 24), (2, 25), (3, 26), (4, 27), (5, 28), (6, 29), (7, 30), (8, 22), (9, 31), (10, 32), (11, 9), (13, 10)] ([.val (.slice A n c), .pr (OwnB w0.heap.size n bs) OwnB.on OwnB.setR, .val (.int .i64 p), .val (.agg #[.int .i64 s.k, .int .i64 s.a, .int .i64 s.b, .int .i64 s.c, .int .i64 s.d]), .val (.agg #[.int .i64 s.k, .int .i64 s.a, .int .i64 s.b, .int .i64 s.c, .int .i64 s.d]), .val (.agg #[.int .i64 t.k, .int .i64 t.a, .int .i64 t.b, .int .i64 t.c, .int .i64 t.d]), .val (.agg #[.int .i64 t.k, .int .i64 t.a, .int .i64 t.b, .int .i64 t.c, .int .i64 t.d]), .pr (URf true x os ds P Q kq w0.heap.size) URf.on URf.setR, .pr (URf true x os ds P Q kq w0.heap.size) URf.on URf.setR, .pr (URf false x os ds P Q kq w0.heap.size) URf.on URf.setR, .val (.int .i64 kq), .any, .any, .val (.int .i64 kq)]) 11 12 9 (by decide) (by kernel_rfl) (by kernel_rfl) (by kernel_rfl) rfl (by kernel_rfl) rfl rfl (UVar x os ds P Q w0.heap.size) UVar.on ?_ ?_ ?_ ?_
  · intro o ho a' v K' hK
    obtain rfl := Option.some.inj ho
    exact u_allocR rfl hK
  · intro o ho a' v K' b hx hpb hz hnd hB hK
    obtain rfl := Option.some.inj ho
    obtain ⟨A7, c7, D7, d7, h0, o7, q7, ap7⟩ := (new_of hnd 9 31 (by kernel_rfl) (by decide) :)
    exact wp_store_row 36 _ _ rfl b _ hpb h0 _ _ hz info_up rfl (by simp [Value.oneCell']) (hK _ _ ⟨A7, c7, D7, d7, setRow_heap _ _ _ _ _ _ hz, own_setR hz (K.setRow_grown v b _) o7, own_setR hz (K.setRow_grown v b _) q7, ap7⟩ (K.setRow_grown v b _))
  · intro j o hja hjs ho a' v K' hx hnd hB hK
    match j, hja, hjs, ho with
    | 0, _, _, ho =>
      obtain rfl := Option.some.inj ho
      have h0 : a'.eval (.tmp 0) = .slice A n c := (hx 0 (by decide)).trans rfl
      exact u_move _ _ rfl h0 (hK _ _ rfl (Below.refl _ _))
    | 1, _, _, ho =>
      obtain rfl := Option.some.inj ho
      have h0 : a'.eval (.tmp 23) = .slice A n c := (new_of hnd 0 23 (by kernel_rfl) (by decide) :)
      refine u_toBytesR _ _ _ rfl h0 (Calls.mono (toFn A n c bs v ((R0.out.below (bthen B0.out hB)).more (bthen B0.out hB).size) HL.out hn) ?_)
      rintro e' v' ⟨D6, d6, rfl, o6, b6⟩
      exact ⟨_, rfl, hK _ _ ⟨D6, d6, rfl, own_base o6 hB.size⟩ b6⟩
    | 2, _, _, ho =>
      obtain rfl := Option.some.inj ho
      have h0 : a'.eval (.tmp 1) = .int .i64 p := (hx 1 (by decide)).trans rfl
      exact u_move _ _ rfl h0 (hK _ _ rfl (Below.refl _ _))
    | 3, _, _, ho =>
      obtain rfl := Option.some.inj ho
      have h0 : a'.eval (.tmp 6) = .pointer (some ⟨w.heap.size, 0, none⟩) := (hx 6 (by decide)).trans rfl
      exact wp_load_row 23 _ rfl (w.heap.size) h0 _ _ (0, 0) _ (K.below hB p0.out) Try.underlying23 rfl info_laddrP (hK _ _ rfl (Below.refl _ _))
    | 4, _, _, ho =>
      obtain rfl := Option.some.inj ho
      have h0 : a'.eval (.tmp 26) = .agg #[.int .i64 s.k, .int .i64 s.a, .int .i64 s.b, .int .i64 s.c, .int .i64 s.d] := (new_of hnd 3 26 (by kernel_rfl) (by decide) :)
      refine u_toAddrR _ _ _ rfl h0 (Calls.mono (toAddrC s v) ?_)
      rintro e' v' ⟨rfl, b6⟩
      exact ⟨_, rfl, hK _ _ rfl b6⟩
    | 5, _, _, ho =>
      obtain rfl := Option.some.inj ho
      have h0 : a'.eval (.tmp 7) = .pointer (some ⟨w.heap.size + 1, 0, none⟩) := (hx 7 (by decide)).trans rfl
      exact wp_load_row 23 _ rfl (w.heap.size + 1) h0 _ _ (0, 0) _ (K.below hB t_0.out) Try.underlying23 rfl info_laddrP (hK _ _ rfl (Below.refl _ _))
    | 6, _, _, ho =>
      obtain rfl := Option.some.inj ho
      have h0 : a'.eval (.tmp 28) = .agg #[.int .i64 t.k, .int .i64 t.a, .int .i64 t.b, .int .i64 t.c, .int .i64 t.d] := (new_of hnd 5 28 (by kernel_rfl) (by decide) :)
      refine u_toAddrR _ _ _ rfl h0 (Calls.mono (toAddrC t v) ?_)
      rintro e' v' ⟨rfl, b6⟩
      exact ⟨_, rfl, hK _ _ rfl b6⟩
    | 7, _, _, ho =>
      obtain rfl := Option.some.inj ho
      obtain ⟨A6, c6, h0, o6⟩ := (new_of hnd 1 24 (by kernel_rfl) (by decide) :)
      have h1 : a'.eval (.tmp 25) = .int .i64 p := (new_of hnd 2 25 (by kernel_rfl) (by decide) :)
      have h2 : a'.eval (.tmp 27) = .agg #[.int .i64 s.k, .int .i64 s.a, .int .i64 s.b, .int .i64 s.c, .int .i64 s.d] := (new_of hnd 4 27 (by kernel_rfl) (by decide) :)
      have h3 : a'.eval (.tmp 29) = .agg #[.int .i64 t.k, .int .i64 t.a, .int .i64 t.b, .int .i64 t.c, .int .i64 t.d] := (new_of hnd 6 29 (by kernel_rfl) (by decide) :)
      refine u_specR _ _ _ _ _ _ _ _ _ rfl h0 h1 h2 h3 (Calls.mono (SO.out A6 c6 v (RB.of_own o6) (own_capR o6).1) ?_)
      rintro e' v' ⟨A7, c7, D7, d7, rfl, o7, q7, ap7, b7⟩
      exact ⟨_, rfl, hK _ _ ⟨A7, c7, D7, d7, rfl, own_base o7 hB.size, own_base q7 hB.size, ap7⟩ b7⟩
    | 8, _, _, ho =>
      obtain rfl := Option.some.inj ho
      obtain ⟨A7, c7, D7, d7, h0, o7, q7, ap7⟩ := (new_of hnd 7 30 (by kernel_rfl) (by decide) :)
      exact u_move _ _ rfl h0 (hK _ _ ⟨A7, c7, D7, d7, rfl, o7, q7, ap7⟩ (Below.refl _ _))
    | 9, _, _, ho =>
      obtain rfl := Option.some.inj ho
      obtain ⟨A7, c7, D7, d7, h0, o7, q7, ap7⟩ := (new_of hnd 8 22 (by kernel_rfl) (by decide) :)
      exact u_ext0 _ _ _ rfl h0 (hK _ _ ⟨A7, c7, D7, d7, rfl, o7, q7, ap7⟩ (Below.refl _ _))
    | 10, _, _, ho =>
      obtain rfl := Option.some.inj ho
      obtain ⟨A7, c7, D7, d7, h0, o7, q7, ap7⟩ := (new_of hnd 8 22 (by kernel_rfl) (by decide) :)
      exact u_ext1 _ _ _ rfl h0 (hK _ _ rfl (Below.refl _ _))
    | 13, _, _, ho =>
      obtain rfl := Option.some.inj ho
      have h0 : a'.eval (.tmp 32) = .int .i64 kq := (new_of hnd 10 32 (by kernel_rfl) (by decide) :)
      exact u_asg _ _ rfl h0 (hK _ _ rfl (Below.refl _ _))
    | 11, hja, _, _ => exact absurd rfl hja
    | 12, _, hjs, _ => exact absurd rfl hjs
    | j + 14, _, _, ho => simp at ho
  · intro f w2 b2 hf eN lN hG hB
    obtain ⟨A2, c2, D2, d2, rU, oU, pU, aU⟩ := hG
    have e0 : f 0 = (.slice A n c) := hf (0, 23) (by decide) (by decide)
    have e2 : f 2 = (.int .i64 p) := hf (2, 25) (by decide) (by decide)
    have e3 : f 3 = (.agg #[.int .i64 s.k, .int .i64 s.a, .int .i64 s.b, .int .i64 s.c, .int .i64 s.d]) := hf (3, 26) (by decide) (by decide)
    have e4 : f 4 = (.agg #[.int .i64 s.k, .int .i64 s.a, .int .i64 s.b, .int .i64 s.c, .int .i64 s.d]) := hf (4, 27) (by decide) (by decide)
    have e5 : f 5 = (.agg #[.int .i64 t.k, .int .i64 t.a, .int .i64 t.b, .int .i64 t.c, .int .i64 t.d]) := hf (5, 28) (by decide) (by decide)
    have e6 : f 6 = (.agg #[.int .i64 t.k, .int .i64 t.a, .int .i64 t.b, .int .i64 t.c, .int .i64 t.d]) := hf (6, 29) (by decide) (by decide)
    have e10 : f 10 = (.int .i64 kq) := hf (10, 32) (by decide) (by decide)
    have e13 : f 13 = .int .i64 kq := hf (13, 10) (by decide) (by decide)
    simp only [List.foldl_cons, List.foldl_nil, e0, e2, e3, e4, e5, e6, e10, e13, eN]
    clear e0 e2 e3 e4 e5 e6 e10 e13 eN hf
    go_simp
    have NO2 := Lib.hid (own_neR oU rU)
    have NP2 := Lib.hid (own_neR pU rU)
    have AU2 := Lib.hid aU
    have p2 := Lib.hid (K.below hB p0.out)
    have t_2 := Lib.hid (K.below hB t_0.out)
    have B2 := Lib.hid (bthen B0.out hB)
    have q2 := Lib.hid rU
    have SA2 := Lib.hid oU
    have SD2 := Lib.hid pU
    have LB2 := Lib.hid (And.intro lN hB.size)
    clear rU oU pU aU lN hB p0 t_0 B0
    have l2 : b2 < w2.heap.size := K.lt q2.out
    have LS := Lib.hid (And.intro (fun k hk => (SA2.out.lt k hk).2) (fun k hk => (SD2.out.lt k hk).2))
    obtain ⟨lb2, lz2⟩ := LB2.out
    go_wp2_with fail
    refine Calls.mono (toFn A n c bs _ ((R0.out.below B2.out).more B2.out.size) HL.out hn) ?_
    rintro e w3 ⟨X, xc, rfl, ox, b3⟩
    have p3 := Lib.hid (K.below b3 p2.out)
    have t_3 := Lib.hid (K.below b3 t_2.out)
    have B3 := Lib.hid (bthen B2.out b3)
    have q3 := Lib.hid (K.below b3 q2.out)
    have SA3 := Lib.hid (own_below SA2.out b3)
    have SD3 := Lib.hid (own_below SD2.out b3)
    clear p2 t_2 B2 q2 SA2 SD2
    have X3 := Lib.hid ox
    have LX := Lib.hid ox.lt
    have Z3 := b3.size
    clear ox b3
    go_upto_region 5 with fail
    refine wp_region_new 36 #[.int .i64 0, .int .i64 0, .int .i64 0, .int .i64 0, .int .i64 0, .int .i64 0, .int .i64 0, .int .i64 0, .int .i64 0, .int .i64 0, .int .i64 0, .bool false, .slice none 0 0, .slice none 0 0] (by kernel_rfl) [1, 6, 7, 11] 114 [(0, 36), (1, 37), (2, 38), (3, 39), (4, 40), (5, 41), (6, 42), (7, 35), (8, 43), (9, 44), (10, 12), (12, 13)] ([.val (.slice X n xc), .val (.int .i64 p), .val (.agg #[.int .i64 s.k, .int .i64 s.a, .int .i64 s.b, .int .i64 s.c, .int .i64 s.d]), .val (.agg #[.int .i64 s.k, .int .i64 s.a, .int .i64 s.b, .int .i64 s.c, .int .i64 s.d]), .val (.agg #[.int .i64 t.k, .int .i64 t.a, .int .i64 t.b, .int .i64 t.c, .int .i64 t.d]), .val (.agg #[.int .i64 t.k, .int .i64 t.a, .int .i64 t.b, .int .i64 t.c, .int .i64 t.d]), .pr (URf true x os ds P Q kq w3.heap.size) URf.on URf.setR, .pr (URf true x os ds P Q kq w3.heap.size) URf.on URf.setR, .pr (URf false x os ds P Q kq w3.heap.size) URf.on URf.setR, .val (.int .i64 kq), .any, .any, .val (.int .i64 kq)]) 10 11 12 (by decide) (by kernel_rfl) (by kernel_rfl) (by kernel_rfl) rfl (by kernel_rfl) rfl rfl (UVar x os ds P Q w3.heap.size) UVar.on ?_ ?_ ?_ ?_
    · intro o ho a' v K' hK
      obtain rfl := Option.some.inj ho
      exact u_allocR rfl hK
    · intro o ho a' v K' b hx hpb hz hnd hB hK
      obtain rfl := Option.some.inj ho
      obtain ⟨A7, c7, D7, d7, h0, o7, q7, ap7⟩ := (new_of hnd 8 43 (by kernel_rfl) (by decide) :)
      exact wp_store_row 36 _ _ rfl b _ hpb h0 _ _ hz info_up rfl (by simp [Value.oneCell']) (hK _ _ ⟨A7, c7, D7, d7, setRow_heap _ _ _ _ _ _ hz, own_setR hz (K.setRow_grown v b _) o7, own_setR hz (K.setRow_grown v b _) q7, ap7⟩ (K.setRow_grown v b _))
    · intro j o hja hjs ho a' v K' hx hnd hB hK
      match j, hja, hjs, ho with
      | 0, _, _, ho =>
        obtain rfl := Option.some.inj ho
        have h0 : a'.eval (.tmp 11) = .slice X n xc := (hx 11 (by decide)).trans rfl
        exact u_move _ _ rfl h0 (hK _ _ rfl (Below.refl _ _))
      | 1, _, _, ho =>
        obtain rfl := Option.some.inj ho
        have h0 : a'.eval (.tmp 1) = .int .i64 p := (hx 1 (by decide)).trans rfl
        exact u_move _ _ rfl h0 (hK _ _ rfl (Below.refl _ _))
      | 2, _, _, ho =>
        obtain rfl := Option.some.inj ho
        have h0 : a'.eval (.tmp 6) = .pointer (some ⟨w.heap.size, 0, none⟩) := (hx 6 (by decide)).trans rfl
        exact wp_load_row 23 _ rfl (w.heap.size) h0 _ _ (0, 0) _ (K.below hB p3.out) Try.underlying23 rfl info_laddrP (hK _ _ rfl (Below.refl _ _))
      | 3, _, _, ho =>
        obtain rfl := Option.some.inj ho
        have h0 : a'.eval (.tmp 38) = .agg #[.int .i64 s.k, .int .i64 s.a, .int .i64 s.b, .int .i64 s.c, .int .i64 s.d] := (new_of hnd 2 38 (by kernel_rfl) (by decide) :)
        refine u_toAddrR _ _ _ rfl h0 (Calls.mono (toAddrC s v) ?_)
        rintro e' v' ⟨rfl, b6⟩
        exact ⟨_, rfl, hK _ _ rfl b6⟩
      | 4, _, _, ho =>
        obtain rfl := Option.some.inj ho
        have h0 : a'.eval (.tmp 7) = .pointer (some ⟨w.heap.size + 1, 0, none⟩) := (hx 7 (by decide)).trans rfl
        exact wp_load_row 23 _ rfl (w.heap.size + 1) h0 _ _ (0, 0) _ (K.below hB t_3.out) Try.underlying23 rfl info_laddrP (hK _ _ rfl (Below.refl _ _))
      | 5, _, _, ho =>
        obtain rfl := Option.some.inj ho
        have h0 : a'.eval (.tmp 40) = .agg #[.int .i64 t.k, .int .i64 t.a, .int .i64 t.b, .int .i64 t.c, .int .i64 t.d] := (new_of hnd 4 40 (by kernel_rfl) (by decide) :)
        refine u_toAddrR _ _ _ rfl h0 (Calls.mono (toAddrC t v) ?_)
        rintro e' v' ⟨rfl, b6⟩
        exact ⟨_, rfl, hK _ _ rfl b6⟩
      | 6, _, _, ho =>
        obtain rfl := Option.some.inj ho
        have h0 : a'.eval (.tmp 36) = .slice X n xc := (new_of hnd 0 36 (by kernel_rfl) (by decide) :)
        have h1 : a'.eval (.tmp 37) = .int .i64 p := (new_of hnd 1 37 (by kernel_rfl) (by decide) :)
        have h2 : a'.eval (.tmp 39) = .agg #[.int .i64 s.k, .int .i64 s.a, .int .i64 s.b, .int .i64 s.c, .int .i64 s.d] := (new_of hnd 3 39 (by kernel_rfl) (by decide) :)
        have h3 : a'.eval (.tmp 41) = .agg #[.int .i64 t.k, .int .i64 t.a, .int .i64 t.b, .int .i64 t.c, .int .i64 t.d] := (new_of hnd 5 41 (by kernel_rfl) (by decide) :)
        refine u_implR _ _ _ _ _ _ _ _ _ rfl h0 h1 h2 h3 (Calls.mono (PO.out X xc v (RB.of_own (own_below X3.out hB)) (own_capR X3.out).1 (own_capR X3.out).2) ?_)
        rintro e' v' ⟨A7, c7, D7, d7, rfl, o7, q7, ap7, b7⟩
        exact ⟨_, rfl, hK _ _ ⟨A7, c7, D7, d7, rfl, own_base o7 hB.size, own_base q7 hB.size, ap7⟩ b7⟩
      | 7, _, _, ho =>
        obtain rfl := Option.some.inj ho
        obtain ⟨A7, c7, D7, d7, h0, o7, q7, ap7⟩ := (new_of hnd 6 42 (by kernel_rfl) (by decide) :)
        exact u_move _ _ rfl h0 (hK _ _ ⟨A7, c7, D7, d7, rfl, o7, q7, ap7⟩ (Below.refl _ _))
      | 8, _, _, ho =>
        obtain rfl := Option.some.inj ho
        obtain ⟨A7, c7, D7, d7, h0, o7, q7, ap7⟩ := (new_of hnd 7 35 (by kernel_rfl) (by decide) :)
        exact u_ext0 _ _ _ rfl h0 (hK _ _ ⟨A7, c7, D7, d7, rfl, o7, q7, ap7⟩ (Below.refl _ _))
      | 9, _, _, ho =>
        obtain rfl := Option.some.inj ho
        obtain ⟨A7, c7, D7, d7, h0, o7, q7, ap7⟩ := (new_of hnd 7 35 (by kernel_rfl) (by decide) :)
        exact u_ext1 _ _ _ rfl h0 (hK _ _ rfl (Below.refl _ _))
      | 12, _, _, ho =>
        obtain rfl := Option.some.inj ho
        have h0 : a'.eval (.tmp 44) = .int .i64 kq := (new_of hnd 9 44 (by kernel_rfl) (by decide) :)
        exact u_asg _ _ rfl h0 (hK _ _ rfl (Below.refl _ _))
      | 10, hja, _, _ => exact absurd rfl hja
      | 11, _, hjs, _ => exact absurd rfl hjs
      | j + 13, _, _, ho => simp at ho
    · intro f w4 b4 hf eN lN hG hB
      obtain ⟨A4, c4, D4, d4, rU, oU, pU, aU⟩ := hG
      have e0 : f 0 = (.slice X n xc) := hf (0, 36) (by decide) (by decide)
      have e1 : f 1 = (.int .i64 p) := hf (1, 37) (by decide) (by decide)
      have e2 : f 2 = (.agg #[.int .i64 s.k, .int .i64 s.a, .int .i64 s.b, .int .i64 s.c, .int .i64 s.d]) := hf (2, 38) (by decide) (by decide)
      have e3 : f 3 = (.agg #[.int .i64 s.k, .int .i64 s.a, .int .i64 s.b, .int .i64 s.c, .int .i64 s.d]) := hf (3, 39) (by decide) (by decide)
      have e4 : f 4 = (.agg #[.int .i64 t.k, .int .i64 t.a, .int .i64 t.b, .int .i64 t.c, .int .i64 t.d]) := hf (4, 40) (by decide) (by decide)
      have e5 : f 5 = (.agg #[.int .i64 t.k, .int .i64 t.a, .int .i64 t.b, .int .i64 t.c, .int .i64 t.d]) := hf (5, 41) (by decide) (by decide)
      have e9 : f 9 = (.int .i64 kq) := hf (9, 44) (by decide) (by decide)
      have e12 : f 12 = .int .i64 kq := hf (12, 13) (by decide) (by decide)
      simp only [List.foldl_cons, List.foldl_nil, e0, e1, e2, e3, e4, e5, e9, e12, eN]
      clear e0 e1 e2 e3 e4 e5 e9 e12 eN hf
      go_simp
      have NO4 := Lib.hid (own_neR oU rU)
      have NP4 := Lib.hid (own_neR pU rU)
      have AU4 := Lib.hid aU
      have p4 := Lib.hid (K.below hB p3.out)
      have t_4 := Lib.hid (K.below hB t_3.out)
      have B4 := Lib.hid (bthen B3.out hB)
      have q4 := Lib.hid (K.below hB q3.out)
      have SA4 := Lib.hid (own_below SA3.out hB)
      have SD4 := Lib.hid (own_below SD3.out hB)
      have X4 := Lib.hid (own_below X3.out hB)
      have r4 := Lib.hid rU
      have IA4 := Lib.hid oU
      have ID4 := Lib.hid pU
      have LB4 := Lib.hid (And.intro lN hB.size)
      clear rU oU pU aU lN hB p3 t_3 B3 q3 SA3 SD3 X3
      have l4 : b4 < w4.heap.size := K.lt r4.out
      obtain ⟨lb4, lz4⟩ := LB4.out
      have LI := Lib.hid (And.intro IA4.out.lt ID4.out.lt)
      go_wp2_with (first | (with_reducible refine loadU rfl _ rfl b4 rfl r4.out ?_) | (with_reducible refine loadU rfl _ rfl b2 rfl q4.out ?_))
      refine Calls.mono (eqUpC x A4 D4 A2 D2 P c4 Q d4 c2 d2 os ds _ (RB.of_own IA4.out) (RB.of_own SA4.out) HP.out (by omega) (RB.of_own ID4.out) (RB.of_own SD4.out) HQ.out (by omega)) ?_
      rintro e w5 ⟨rfl, b5⟩
      have p5 := Lib.hid (K.below b5 p4.out)
      have t_5 := Lib.hid (K.below b5 t_4.out)
      have B5 := Lib.hid (bthen B4.out b5)
      have q5 := Lib.hid (K.below b5 q4.out)
      have SA5 := Lib.hid (own_below SA4.out b5)
      have SD5 := Lib.hid (own_below SD4.out b5)
      have X5 := Lib.hid (own_below X4.out b5)
      have r5 := Lib.hid (K.below b5 r4.out)
      have IA5 := Lib.hid (own_below IA4.out b5)
      have ID5 := Lib.hid (own_below ID4.out b5)
      clear p4 t_4 B4 q4 SA4 SD4 X4 r4 IA4 ID4
      clear b5
      go_wp2_with fail
      refine Calls.mono (toFn A n c bs _ ((R0.out.below B5.out).more B5.out.size) HL.out hn) ?_
      rintro e w6 ⟨X6_, x6, rfl, o6, b6⟩
      have p6 := Lib.hid (K.below b6 p5.out)
      have t_6 := Lib.hid (K.below b6 t_5.out)
      have B6 := Lib.hid (bthen B5.out b6)
      have q6 := Lib.hid (K.below b6 q5.out)
      have SA6 := Lib.hid (own_below SA5.out b6)
      have SD6 := Lib.hid (own_below SD5.out b6)
      have X6 := Lib.hid (own_below X5.out b6)
      have r6 := Lib.hid (K.below b6 r5.out)
      have IA6 := Lib.hid (own_below IA5.out b6)
      have ID6 := Lib.hid (own_below ID5.out b6)
      clear p5 t_5 B5 q5 SA5 SD5 X5 r5 IA5 ID5
      clear b6
      go_wp2_with fail
      refine Calls.mono (eqBn X X6_ n xc x6 bs _ (RB.of_own X6.out) (RB.of_own o6) HL.out hn) ?_
      rintro e w7 ⟨rfl, b7⟩
      have p7 := Lib.hid (K.below b7 p6.out)
      have t_7 := Lib.hid (K.below b7 t_6.out)
      have B7 := Lib.hid (bthen B6.out b7)
      have q7 := Lib.hid (K.below b7 q6.out)
      have SA7 := Lib.hid (own_below SA6.out b7)
      have SD7 := Lib.hid (own_below SD6.out b7)
      have X7 := Lib.hid (own_below X6.out b7)
      have r7 := Lib.hid (K.below b7 r6.out)
      have IA7 := Lib.hid (own_below IA6.out b7)
      have ID7 := Lib.hid (own_below ID6.out b7)
      clear p6 t_6 B6 q6 SA6 SD6 X6 r6 IA6 ID6
      clear b7 o6
      go_wp2_with fail
      refine Calls.mono (markBn X n xc _ bs 1 _ X7.out hn (by omega) (by omega)) ?_
      rintro e w8 ⟨rfl, -, g8⟩
      have apX : ∀ k, (Value.slice X n xc).ownBlock = some k → w2.heap.size ≤ k ∧ k < w3.heap.size := fun k hk => LX.out k hk
      clear X7
      have p8 := Lib.hid (K.kept g8 p7.out (fun k hk => by have := apX k hk; omega))
      have t_8 := Lib.hid (K.kept g8 t_7.out (fun k hk => by have := apX k hk; omega))
      have B8 := Lib.hid (bgrown B7.out g8 (fun k hk => by have := apX k hk; omega))
      have q8 := Lib.hid (K.kept g8 q7.out (fun k hk => by have := apX k hk; omega))
      have SA8 := Lib.hid (own_grown SA7.out g8 (fun k h1 h2 => by have := LS.out.1 k h1; have := apX k h2; omega))
      have SD8 := Lib.hid (own_grown SD7.out g8 (fun k h1 h2 => by have := LS.out.2 k h1; have := apX k h2; omega))
      have r8 := Lib.hid (K.kept g8 r7.out (fun k hk => by have := apX k hk; omega))
      have IA8 := Lib.hid (own_grown IA7.out g8 (fun k h1 h2 => by have := (LI.out.1 k h1).1; have := apX k h2; omega))
      have ID8 := Lib.hid (own_grown ID7.out g8 (fun k h1 h2 => by have := (LI.out.2 k h1).1; have := apX k h2; omega))
      clear p7 t_7 B7 q7 SA7 SD7 r7 IA7 ID7
      clear g8 apX
      go_wp2_with (first | (refine loadUGR _ rfl b4 rfl (by rfl) r8.out ?_) | (refine loadUGR _ rfl b2 rfl (by rfl) q8.out ?_))
      refine Calls.mono (eqUpC x A4 D4 A2 D2 P c4 Q d4 c2 d2 os ds _ (RB.of_own IA8.out) (RB.of_own SA8.out) HP.out (by omega) (RB.of_own ID8.out) (RB.of_own SD8.out) HQ.out (by omega)) ?_
      rintro e w9 ⟨rfl, b9⟩
      have p9 := Lib.hid (K.below b9 p8.out)
      have t_9 := Lib.hid (K.below b9 t_8.out)
      have B9 := Lib.hid (bthen B8.out b9)
      have q9 := Lib.hid (K.below b9 q8.out)
      have SA9 := Lib.hid (own_below SA8.out b9)
      have SD9 := Lib.hid (own_below SD8.out b9)
      have r9 := Lib.hid (K.below b9 r8.out)
      have IA9 := Lib.hid (own_below IA8.out b9)
      have ID9 := Lib.hid (own_below ID8.out b9)
      clear p8 t_8 B8 q8 SA8 SD8 r8 IA8 ID8
      clear b9
      go_wp2_with (first | (with_reducible refine loadU rfl _ rfl b4 rfl r9.out ?_) | (with_reducible refine loadU rfl _ rfl b2 rfl q9.out ?_))
      refine Calls.mono (markUpC x A4 D4 P c4 Q d4 w3.heap.size os ds 1 _ IA9.out ID9.out AU4.out (by omega) (by omega) (by omega) (by omega)) ?_
      rintro e w10 ⟨rfl, ma, md, u, ga, gd⟩
      have apA : ∀ k, (Value.slice A4 P c4).ownBlock = some k → w3.heap.size ≤ k ∧ k < w4.heap.size ∧ k ≠ b4 := fun k hk => ⟨(LI.out.1 k hk).1, (LI.out.1 k hk).2, NO4.out k hk⟩
      have apD : ∀ k, (Value.slice D4 Q d4).ownBlock = some k → w3.heap.size ≤ k ∧ k < w4.heap.size ∧ k ≠ b4 := fun k hk => ⟨(LI.out.2 k hk).1, (LI.out.2 k hk).2, NP4.out k hk⟩
      have p10 := Lib.hid (K.kept gd (K.kept ga p9.out (fun k hk => by have := apA k hk; omega)) (fun k hk => by have := apD k hk; omega))
      have t_10 := Lib.hid (K.kept gd (K.kept ga t_9.out (fun k hk => by have := apA k hk; omega)) (fun k hk => by have := apD k hk; omega))
      have B10 := Lib.hid (bgrown (bgrown B9.out ga (fun k hk => by have := apA k hk; omega)) gd (fun k hk => by have := apD k hk; omega))
      have q10 := Lib.hid (K.kept gd (K.kept ga q9.out (fun k hk => by have := apA k hk; omega)) (fun k hk => by have := apD k hk; omega))
      have SA10 := Lib.hid (own_grown (own_grown SA9.out ga (fun k h1 h2 => by have := LS.out.1 k h1; have := apA k h2; omega)) gd (fun k h1 h2 => by have := LS.out.1 k h1; have := apD k h2; omega))
      have SD10 := Lib.hid (own_grown (own_grown SD9.out ga (fun k h1 h2 => by have := LS.out.2 k h1; have := apA k h2; omega)) gd (fun k h1 h2 => by have := LS.out.2 k h1; have := apD k h2; omega))
      have r10 := Lib.hid (K.kept gd (K.kept ga r9.out (fun k hk => by have := apA k hk; omega)) (fun k hk => by have := apD k hk; omega))
      have IA10 := Lib.hid ma
      have ID10 := Lib.hid md
      clear ma md ga gd apA apD p9 t_9 B9 q9 SA9 SD9 r9 IA9 ID9
      go_wp2_with (first | (with_reducible refine loadU rfl _ rfl b4 rfl r10.out ?_) | (with_reducible refine loadU rfl _ rfl b2 rfl q10.out ?_))
      refine Calls.mono (heldUpC x A4 D4 P c4 Q d4 1 _ (RB.of_own IA10.out) (RB.of_own ID10.out) (by omega) (by omega) (by omega) (by omega)) ?_
      rintro e w11 ⟨rfl, b11⟩
      have p11 := Lib.hid (K.below b11 p10.out)
      have t_11 := Lib.hid (K.below b11 t_10.out)
      have B11 := Lib.hid (bthen B10.out b11)
      have q11 := Lib.hid (K.below b11 q10.out)
      have SA11 := Lib.hid (own_below SA10.out b11)
      have SD11 := Lib.hid (own_below SD10.out b11)
      have r11 := Lib.hid (K.below b11 r10.out)
      have IA11 := Lib.hid (own_below IA10.out b11)
      have ID11 := Lib.hid (own_below ID10.out b11)
      clear p10 t_10 B10 q10 SA10 SD10 r10 IA10 ID10
      clear b11
      have hmm : ((1 : Int) + P + Q != 1 + P + Q) = false := by simp
      go_upto_region 22 with fail
      refine wp_region_new 36 #[.int .i64 0, .int .i64 0, .int .i64 0, .int .i64 0, .int .i64 0, .int .i64 0, .int .i64 0, .int .i64 0, .int .i64 0, .int .i64 0, .int .i64 0, .bool false, .slice none 0 0, .slice none 0 0] (by kernel_rfl) [0, 1, 6, 7] 114 [(0, 87), (1, 88), (2, 89), (3, 90), (4, 91), (5, 92), (6, 93), (7, 94), (8, 86), (9, 95), (10, 96), (11, 17), (13, 18)] ([.val (.slice A n c), .pr (OwnB w11.heap.size n bs) OwnB.on OwnB.setR, .val (.int .i64 p), .val (.agg #[.int .i64 s.k, .int .i64 s.a, .int .i64 s.b, .int .i64 s.c, .int .i64 s.d]), .val (.agg #[.int .i64 s.k, .int .i64 s.a, .int .i64 s.b, .int .i64 s.c, .int .i64 s.d]), .val (.agg #[.int .i64 t.k, .int .i64 t.a, .int .i64 t.b, .int .i64 t.c, .int .i64 t.d]), .val (.agg #[.int .i64 t.k, .int .i64 t.a, .int .i64 t.b, .int .i64 t.c, .int .i64 t.d]), .pr (URf true x os ds P Q kq w11.heap.size) URf.on URf.setR, .pr (URf true x os ds P Q kq w11.heap.size) URf.on URf.setR, .pr (URf false x os ds P Q kq w11.heap.size) URf.on URf.setR, .val (.int .i64 kq), .any, .any, .val (.int .i64 kq)]) 11 12 17 (by decide) (by kernel_rfl) (by kernel_rfl) (by kernel_rfl) rfl (by kernel_rfl) rfl rfl (UVar x os ds P Q w11.heap.size) UVar.on ?_ ?_ ?_ ?_
      · intro o ho a' v K' hK
        obtain rfl := Option.some.inj ho
        exact u_allocR rfl hK
      · intro o ho a' v K' b hx hpb hz hnd hB hK
        obtain rfl := Option.some.inj ho
        obtain ⟨A7, c7, D7, d7, h0, o7, q7, ap7⟩ := (new_of hnd 9 95 (by kernel_rfl) (by decide) :)
        exact wp_store_row 36 _ _ rfl b _ hpb h0 _ _ hz info_up rfl (by simp [Value.oneCell']) (hK _ _ ⟨A7, c7, D7, d7, setRow_heap _ _ _ _ _ _ hz, own_setR hz (K.setRow_grown v b _) o7, own_setR hz (K.setRow_grown v b _) q7, ap7⟩ (K.setRow_grown v b _))
      · intro j o hja hjs ho a' v K' hx hnd hB hK
        match j, hja, hjs, ho with
        | 0, _, _, ho =>
          obtain rfl := Option.some.inj ho
          have h0 : a'.eval (.tmp 0) = .slice A n c := (hx 0 (by decide)).trans rfl
          exact u_move _ _ rfl h0 (hK _ _ rfl (Below.refl _ _))
        | 1, _, _, ho =>
          obtain rfl := Option.some.inj ho
          have h0 : a'.eval (.tmp 87) = .slice A n c := (new_of hnd 0 87 (by kernel_rfl) (by decide) :)
          refine u_toBytesR _ _ _ rfl h0 (Calls.mono (toFn A n c bs v ((R0.out.below (bthen B11.out hB)).more (bthen B11.out hB).size) HL.out hn) ?_)
          rintro e' v' ⟨D6, d6, rfl, o6, b6⟩
          exact ⟨_, rfl, hK _ _ ⟨D6, d6, rfl, own_base o6 hB.size⟩ b6⟩
        | 2, _, _, ho =>
          obtain rfl := Option.some.inj ho
          have h0 : a'.eval (.tmp 1) = .int .i64 p := (hx 1 (by decide)).trans rfl
          exact u_move _ _ rfl h0 (hK _ _ rfl (Below.refl _ _))
        | 3, _, _, ho =>
          obtain rfl := Option.some.inj ho
          have h0 : a'.eval (.tmp 6) = .pointer (some ⟨w.heap.size, 0, none⟩) := (hx 6 (by decide)).trans rfl
          exact wp_load_row 23 _ rfl (w.heap.size) h0 _ _ (0, 0) _ (K.below hB p11.out) Try.underlying23 rfl info_laddrP (hK _ _ rfl (Below.refl _ _))
        | 4, _, _, ho =>
          obtain rfl := Option.some.inj ho
          have h0 : a'.eval (.tmp 90) = .agg #[.int .i64 s.k, .int .i64 s.a, .int .i64 s.b, .int .i64 s.c, .int .i64 s.d] := (new_of hnd 3 90 (by kernel_rfl) (by decide) :)
          refine u_toAddrR _ _ _ rfl h0 (Calls.mono (toAddrC s v) ?_)
          rintro e' v' ⟨rfl, b6⟩
          exact ⟨_, rfl, hK _ _ rfl b6⟩
        | 5, _, _, ho =>
          obtain rfl := Option.some.inj ho
          have h0 : a'.eval (.tmp 7) = .pointer (some ⟨w.heap.size + 1, 0, none⟩) := (hx 7 (by decide)).trans rfl
          exact wp_load_row 23 _ rfl (w.heap.size + 1) h0 _ _ (0, 0) _ (K.below hB t_11.out) Try.underlying23 rfl info_laddrP (hK _ _ rfl (Below.refl _ _))
        | 6, _, _, ho =>
          obtain rfl := Option.some.inj ho
          have h0 : a'.eval (.tmp 92) = .agg #[.int .i64 t.k, .int .i64 t.a, .int .i64 t.b, .int .i64 t.c, .int .i64 t.d] := (new_of hnd 5 92 (by kernel_rfl) (by decide) :)
          refine u_toAddrR _ _ _ rfl h0 (Calls.mono (toAddrC t v) ?_)
          rintro e' v' ⟨rfl, b6⟩
          exact ⟨_, rfl, hK _ _ rfl b6⟩
        | 7, _, _, ho =>
          obtain rfl := Option.some.inj ho
          obtain ⟨A6, c6, h0, o6⟩ := (new_of hnd 1 88 (by kernel_rfl) (by decide) :)
          have h1 : a'.eval (.tmp 89) = .int .i64 p := (new_of hnd 2 89 (by kernel_rfl) (by decide) :)
          have h2 : a'.eval (.tmp 91) = .agg #[.int .i64 s.k, .int .i64 s.a, .int .i64 s.b, .int .i64 s.c, .int .i64 s.d] := (new_of hnd 4 91 (by kernel_rfl) (by decide) :)
          have h3 : a'.eval (.tmp 93) = .agg #[.int .i64 t.k, .int .i64 t.a, .int .i64 t.b, .int .i64 t.c, .int .i64 t.d] := (new_of hnd 6 93 (by kernel_rfl) (by decide) :)
          refine u_implR _ _ _ _ _ _ _ _ _ rfl h0 h1 h2 h3 (Calls.mono (PO.out A6 c6 v (RB.of_own o6) (own_capR o6).1 (own_capR o6).2) ?_)
          rintro e' v' ⟨A7, c7, D7, d7, rfl, o7, q7, ap7, b7⟩
          exact ⟨_, rfl, hK _ _ ⟨A7, c7, D7, d7, rfl, own_base o7 hB.size, own_base q7 hB.size, ap7⟩ b7⟩
        | 8, _, _, ho =>
          obtain rfl := Option.some.inj ho
          obtain ⟨A7, c7, D7, d7, h0, o7, q7, ap7⟩ := (new_of hnd 7 94 (by kernel_rfl) (by decide) :)
          exact u_move _ _ rfl h0 (hK _ _ ⟨A7, c7, D7, d7, rfl, o7, q7, ap7⟩ (Below.refl _ _))
        | 9, _, _, ho =>
          obtain rfl := Option.some.inj ho
          obtain ⟨A7, c7, D7, d7, h0, o7, q7, ap7⟩ := (new_of hnd 8 86 (by kernel_rfl) (by decide) :)
          exact u_ext0 _ _ _ rfl h0 (hK _ _ ⟨A7, c7, D7, d7, rfl, o7, q7, ap7⟩ (Below.refl _ _))
        | 10, _, _, ho =>
          obtain rfl := Option.some.inj ho
          obtain ⟨A7, c7, D7, d7, h0, o7, q7, ap7⟩ := (new_of hnd 8 86 (by kernel_rfl) (by decide) :)
          exact u_ext1 _ _ _ rfl h0 (hK _ _ rfl (Below.refl _ _))
        | 13, _, _, ho =>
          obtain rfl := Option.some.inj ho
          have h0 : a'.eval (.tmp 96) = .int .i64 kq := (new_of hnd 10 96 (by kernel_rfl) (by decide) :)
          exact u_asg _ _ rfl h0 (hK _ _ rfl (Below.refl _ _))
        | 11, hja, _, _ => exact absurd rfl hja
        | 12, _, hjs, _ => exact absurd rfl hjs
        | j + 14, _, _, ho => simp at ho
      · intro f w12 b7 hf eN lN hG hB
        obtain ⟨A7, c7, D7, d7, rU, oU, pU, aU⟩ := hG
        have e0 : f 0 = (.slice A n c) := hf (0, 87) (by decide) (by decide)
        have e2 : f 2 = (.int .i64 p) := hf (2, 89) (by decide) (by decide)
        have e3 : f 3 = (.agg #[.int .i64 s.k, .int .i64 s.a, .int .i64 s.b, .int .i64 s.c, .int .i64 s.d]) := hf (3, 90) (by decide) (by decide)
        have e4 : f 4 = (.agg #[.int .i64 s.k, .int .i64 s.a, .int .i64 s.b, .int .i64 s.c, .int .i64 s.d]) := hf (4, 91) (by decide) (by decide)
        have e5 : f 5 = (.agg #[.int .i64 t.k, .int .i64 t.a, .int .i64 t.b, .int .i64 t.c, .int .i64 t.d]) := hf (5, 92) (by decide) (by decide)
        have e6 : f 6 = (.agg #[.int .i64 t.k, .int .i64 t.a, .int .i64 t.b, .int .i64 t.c, .int .i64 t.d]) := hf (6, 93) (by decide) (by decide)
        have e10 : f 10 = (.int .i64 kq) := hf (10, 96) (by decide) (by decide)
        have e13 : f 13 = .int .i64 kq := hf (13, 18) (by decide) (by decide)
        simp only [List.foldl_cons, List.foldl_nil, e0, e2, e3, e4, e5, e6, e10, e13, eN]
        clear e0 e2 e3 e4 e5 e6 e10 e13 eN hf
        go_simp
        have NO12 := Lib.hid (own_neR oU rU)
        have NP12 := Lib.hid (own_neR pU rU)
        have AU12 := Lib.hid aU
        have p12 := Lib.hid (K.below hB p11.out)
        have t_12 := Lib.hid (K.below hB t_11.out)
        have B12 := Lib.hid (bthen B11.out hB)
        have q12 := Lib.hid (K.below hB q11.out)
        have SA12 := Lib.hid (own_below SA11.out hB)
        have SD12 := Lib.hid (own_below SD11.out hB)
        have r12 := Lib.hid (K.below hB r11.out)
        have IA12 := Lib.hid (own_below IA11.out hB)
        have ID12 := Lib.hid (own_below ID11.out hB)
        have y_12 := Lib.hid rU
        have JA12 := Lib.hid oU
        have JD12 := Lib.hid pU
        have LB12 := Lib.hid (And.intro lN hB.size)
        clear rU oU pU aU lN hB p11 t_11 B11 q11 SA11 SD11 r11 IA11 ID11
        go_wp2_with (first | (with_reducible refine loadU rfl _ rfl b7 rfl y_12.out ?_) | (with_reducible refine loadU rfl _ rfl b2 rfl q12.out ?_))
        refine Calls.mono (eqUpC x A7 D7 A2 D2 P c7 Q d7 c2 d2 os ds _ (RB.of_own JA12.out) (RB.of_own SA12.out) HP.out (by omega) (RB.of_own JD12.out) (RB.of_own SD12.out) HQ.out (by omega)) ?_
        rintro e w13 ⟨rfl, b13⟩
        have B13 := Lib.hid (bthen B12.out b13)
        have r13 := Lib.hid (K.below b13 r12.out)
        have IA13 := Lib.hid (own_below IA12.out b13)
        have ID13 := Lib.hid (own_below ID12.out b13)
        clear B12 r12 IA12 ID12
        clear b13
        go_wp2_with (with_reducible refine loadU rfl _ rfl b4 rfl r13.out ?_)
        refine Calls.mono (heldUpC x A4 D4 P c4 Q d4 1 _ (RB.of_own IA13.out) (RB.of_own ID13.out) (by omega) (by omega) (by omega) (by omega)) ?_
        rintro e w14 ⟨rfl, b14⟩
        have B14 := Lib.hid (bthen B13.out b14)
        clear b14
        go_wp2
        go_ret
        exact ⟨rfl, B14.out⟩

theorem lawUpperRead {w : World} (A : Option Addr) (n c : Nat) (bs : List UInt8) (h : In w A n c bs) (p : Int) (_ : (Lit.int .i64 p).wf = true) (s t : Ad) : Calls Try.prog 5 #[.slice A n c, .int .i64 p, .agg #[.int .i64 s.k, .int .i64 s.a, .int .i64 s.b, .int .i64 s.c, .int .i64 s.d], .agg #[.int .i64 t.k, .int .i64 t.a, .int .i64 t.b, .int .i64 t.c, .int .i64 t.d]] w fun e w' => e = .returned (.bool true) ∧ Below w.heap.size w w' := by
  by_cases hb : n ≤ 1048576
  · exact lawUR_small A n c bs p s t h.rb h.len hb
  · exact lawUR_big A n c p s t (by omega)

namespace fnExactUpperRead
open Go.ChangeShapes Go.WideShapes Go.ChangeAt Go.RowKit
open Go.ChangeMaps (open_string shut_string)
theorem own : ownKnob Try.prog.godebug = none := by kernel_rfl
theorem laidOut : laidOutB Try.prog = true := by kernel_rfl

set_option maxRecDepth 100000 in
theorem lifted (os : Os) (started : os.Started) (H : Type) (enc : TypeId × Value → H) :
    ReturnsInHanded {} Try.checked os 5 .any (Rows.fnExactUpperReadSpec.pre6 enc Try.prog Try.f5 Rows.fnExactUpperReadRow.domain false) (Rows.fnExactUpperReadSpec.post enc Try.prog Try.f5 false true false false) := by
  refine returnsInHanded_of_change (C := Try.checked) own started (by kernel_rfl) Try.func5
    (ChangeSpec.witness6 (enc := enc) (C := Try.checked) false ⟨#[], #[.slice none 0 0, .int .i64 0, .agg #[.int .i64 0, .int .i64 0, .int .i64 0, .int .i64 0, .int .i64 0], .agg #[.int .i64 0, .int .i64 0, .int .i64 0, .int .i64 0, .int .i64 0]], []⟩ 8 (by kernel_rfl) (by kernel_rfl) (by kernel_rfl) (by kernel_rfl)) ?_
  intro W base args ds gs before hval0 hW _ _
  have hval : ∀ (j : Nat) t v, Try.f5.params[j]? = some t → args[j]? = some v → Value.okWide Try.prog W .any base t v := hval0
  have hW' := hW
  obtain ⟨p, q, hA0, hV, rfl, _, _⟩ := hW
  have hA : DataW.TrodAll enc Try.prog W 0 (fun _ => true) true Try.f5.params.toList args.toList ds p := hA0
  rw [Try.params5] at hA hval
  obtain ⟨v0, vs0, d0, ds0, p0, q0, hargs, rfl, rfl, h0, r0⟩ := trodAll_cons hA
  obtain ⟨v1, vs1, d1, ds1, p1, q1, rfl, rfl, rfl, h1, r1⟩ := trodAll_cons r0
  obtain ⟨v2, vs2, d2, ds2, p2, q2, rfl, rfl, rfl, h2, r2⟩ := trodAll_cons r1
  obtain ⟨v3, vs3, d3, ds3, p3, q3, rfl, rfl, rfl, h3, r3⟩ := trodAll_cons r2
  obtain ⟨rfl, rfl, rfl⟩ := trodAll_nil r3
  obtain rfl : args = #[v0, v1, v2, v3] := by cases args; simp_all
  obtain ⟨rfl, rfl⟩ := trodVars_none hV
  obtain ⟨a0, n0, c0, rfl⟩ := okWide_slice Try.underlying34 (hval 0 34 v0 rfl rfl)
  have k0 := h0
  have lt0 : ∀ x ∈ p0, x.block < W.heap.size := by obtain ⟨m, hm⟩ := k0; exact DataW.trod_lt m _ _ _ hm
  obtain ⟨b0, w0⟩ := bytes_in h0
  obtain ⟨a1, rfl, rfl, rfl, w1⟩ := open_int Try.underlying3 (hval 1 3 v1 rfl rfl) h1
  have k2 := h2
  have lt2 : ∀ x ∈ p2, x.block < W.heap.size := by obtain ⟨m, hm⟩ := k2; exact DataW.trod_lt m _ _ _ hm
  obtain ⟨a2, rfl⟩ := addr_in (hval 2 23 v2 rfl rfl) h2
  have k3 := h3
  have lt3 : ∀ x ∈ p3, x.block < W.heap.size := by obtain ⟨m, hm⟩ := k3; exact DataW.trod_lt m _ _ _ hm
  obtain ⟨a3, rfl⟩ := addr_in (hval 3 23 v3 rfl rfl) h3
  clear hA0 hval0
  refine (lawUpperRead a0 n0 c0 b0 w0 a1 w1 a2 a3).mono fun e W' ⟨he, bel⟩ => ?_
  subst he
  exact ⟨_, rfl, _, _, _, [], _, [], hW', trodAll_mk1 (shut_bool Try.underlying4 _), (trodAll_cons_mk (Below.trod laidOut (by kernel_rfl) (of_decide_eq_true (by kernel_rfl)) k0 bel lt0) (trodAll_cons_mk (shut_int Try.underlying3 w1) (trodAll_cons_mk (Below.trod laidOut (by kernel_rfl) (of_decide_eq_true (by kernel_rfl)) k2 bel lt2) (trodAll_cons_mk (Below.trod laidOut (by kernel_rfl) (of_decide_eq_true (by kernel_rfl)) k3 bel lt3) trodAll_mk0)))), rfl, bel.frame _, fun h => by cases h⟩

theorem proved : Rows.FnExactUpperReadSaid :=
  OpenClaim.holds_of_wide 5 Try.f5 rfl rfl rfl rfl rfl rfl rfl ⟨rfl, rfl, rfl, rfl, rfl⟩ rfl rfl rfl rfl rfl (by kernel_rfl) Try.func5 (by kernel_rfl)
    (of_decide_eq_true (by kernel_rfl)) (by unfold Func.isWrapper; rw [if_neg (of_decide_eq_false (by kernel_rfl))]; exact ⟨rfl, rfl⟩)
    (fun os started H enc _ => lifted os started H enc)
#print axioms proved
end fnExactUpperRead
end Go.Proofs.Ythogonpjkngpjaa
