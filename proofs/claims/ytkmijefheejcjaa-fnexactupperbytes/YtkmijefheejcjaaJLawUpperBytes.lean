/-
  For every upper layer and every two addresses the law FnExactUpperBytes returns true: impl.UpperBytes answers what the model spec.UpperBytes answers, leaves its arguments as they were, and its answer owns its memory. No condition.
-/
import Derived.Test.YtkmijefheejcjaaRows
import Derived.Test.YtkmijefheejcjaaKp02
import Derived.Test.YtkmijefheejcjaaKp04
import Derived.Test.YtkmijefheejcjaaKp34
import Derived.ShutString
namespace Go.Proofs.Ytkmijefheejcjaa
set_option maxRecDepth 100000
open Go.RowKit

section
variable {o : Oper} {a : Act} {w : World} {K : Act → World → Prop} {Q : Exit → Act → World → Prop}
theorem u_toAddrY (x : Operand) (x0 : Value) (ts : Array TypeId) (ho : o.op = .call { callee := .value (.func 45), args := #[x], argTypes := ts }) (h0 : a.eval x = x0)
    (h : Calls Try.prog 45 #[x0] w fun e w' => ∃ v, e = .returned v ∧ K (a.put o.dst v) w') : o.wp Try.prog a w K Q := by
  unfold Oper.wp execOp
  simp only [ho, resolve, List.map_toArray, List.map_cons, List.map_nil, h0, show ∀ f, a.eval (.func f) = .func (.func f) #[] #[] from fun _ => rfl]
  go_simp
  exact h.mono fun e w' ⟨u, he, hk⟩ => by subst he; exact hk
theorem u_toUpperY (x : Operand) (x0 : Value) (ts : Array TypeId) (ho : o.op = .call { callee := .value (.func 41), args := #[x], argTypes := ts }) (h0 : a.eval x = x0)
    (h : Calls Try.prog 41 #[x0] w fun e w' => ∃ v, e = .returned v ∧ K (a.put o.dst v) w') : o.wp Try.prog a w K Q := by
  unfold Oper.wp execOp
  simp only [ho, resolve, List.map_toArray, List.map_cons, List.map_nil, h0, show ∀ f, a.eval (.func f) = .func (.func f) #[] #[] from fun _ => rfl]
  go_simp
  exact h.mono fun e w' ⟨u, he, hk⟩ => by subst he; exact hk
theorem u_byS3 (x y z : Operand) (x0 x1 x2 : Value) (ts : Array TypeId) (ho : o.op = .call { callee := .value (.func 49), args := #[x, y, z], argTypes := ts }) (h0 : a.eval x = x0) (h1 : a.eval y = x1) (h2 : a.eval z = x2)
    (h : Calls Try.prog 49 #[x0, x1, x2] w fun e w' => ∃ v, e = .returned v ∧ K (a.put o.dst v) w') : o.wp Try.prog a w K Q := by
  unfold Oper.wp execOp
  simp only [ho, resolve, List.map_toArray, List.map_cons, List.map_nil, h0, h1, h2, show ∀ f, a.eval (.func f) = .func (.func f) #[] #[] from fun _ => rfl]
  go_simp
  exact h.mono fun e w' ⟨u, he, hk⟩ => by subst he; exact hk
theorem u_byI3 (x y z : Operand) (x0 x1 x2 : Value) (ts : Array TypeId) (ho : o.op = .call { callee := .value (.func 23), args := #[x, y, z], argTypes := ts }) (h0 : a.eval x = x0) (h1 : a.eval y = x1) (h2 : a.eval z = x2)
    (h : Calls Try.prog 23 #[x0, x1, x2] w fun e w' => ∃ v, e = .returned v ∧ K (a.put o.dst v) w') : o.wp Try.prog a w K Q := by
  unfold Oper.wp execOp
  simp only [ho, resolve, List.map_toArray, List.map_cons, List.map_nil, h0, h1, h2, show ∀ f, a.eval (.func f) = .func (.func f) #[] #[] from fun _ => rfl]
  go_simp
  exact h.mono fun e w' ⟨u, he, hk⟩ => by subst he; exact hk
end
/-- A slice of its own that reads as ds. -/
def OwnS (b L : Nat) (ds : List UInt8) (w : World) (v : Value) : Prop := ∃ A c, v = .slice A L c ∧ w.ownsRow b 5 1 (.slice A L c) L (cellsOf ds)
theorem OwnS.on {b L : Nat} {ds : List UInt8} (w w' : World) (v : Value) (hb : Below w.heap.size w w') (h : OwnS b L ds w v) : OwnS b L ds w' v := by
  obtain ⟨A, c, e, o⟩ := h
  exact ⟨A, c, e, own_below o hb⟩
theorem encOwn {ds : List UInt8} {L : Nat} {w w' : World} {e : Ending} (hL : ds.length = L) (h : EncOut ds w e w') : ∃ A c, e = .returned (.slice A L c) ∧ w'.ownsRow w.heap.size 5 1 (.slice A L c) L (cellsOf ds) ∧ Below w.heap.size w w' := by
  subst hL
  exact h

set_option maxHeartbeats 1000000 in
theorem lawUpperBytes_big1 {w : World} (s t : Ad) (x : Uh) (A D : Option Addr) (n c m d : Nat) (h : 1048576 < n) (hn : n ≤ maxLen) : Calls Try.prog 12 #[.agg #[.int .i64 x.kind, .int .i64 x.sport, .int .i64 x.dport, .int .i64 x.seq, .int .i64 x.ack, .int .i64 x.bits, .int .i64 x.window, .int .i64 x.urgent, .int .i64 x.ty, .int .i64 x.code, .int .i64 x.rest, .bool x.nosum, .slice A n c, .slice D m d], .agg #[.int .i64 s.k, .int .i64 s.a, .int .i64 s.b, .int .i64 s.c, .int .i64 s.d], .agg #[.int .i64 t.k, .int .i64 t.a, .int .i64 t.b, .int .i64 t.c, .int .i64 t.d]] w fun e w' => e = .returned (.bool true) ∧ Below w.heap.size w w' := by
  have H := Lib.hid (show (1048576 : Int) < n by omega)
  have q0 : Hid ((((w.alloc (.cells #[.int .i64 x.kind, .int .i64 x.sport, .int .i64 x.dport, .int .i64 x.seq, .int .i64 x.ack, .int .i64 x.bits, .int .i64 x.window, .int .i64 x.urgent, .int .i64 x.ty, .int .i64 x.code, .int .i64 x.rest, .bool x.nosum, .slice A n c, .slice D m d] 52)).alloc (.cells #[.int .i64 s.k, .int .i64 s.a, .int .i64 s.b, .int .i64 s.c, .int .i64 s.d] 57)).alloc (.cells #[.int .i64 t.k, .int .i64 t.a, .int .i64 t.b, .int .i64 t.c, .int .i64 t.d] 57)).heap[w.heap.size]? = some (.cells #[.int .i64 x.kind, .int .i64 x.sport, .int .i64 x.dport, .int .i64 x.seq, .int .i64 x.ack, .int .i64 x.bits, .int .i64 x.window, .int .i64 x.urgent, .int .i64 x.ty, .int .i64 x.code, .int .i64 x.rest, .bool x.nosum, .slice A n c, .slice D m d] 52)) := Lib.hid (by repeat (first | exact K.newAt (by first | rfl | (simp; done)) | refine K.oldAt (by first | (simp; done) | (simp; omega)) ?_))
  have q1 : Hid ((((w.alloc (.cells #[.int .i64 x.kind, .int .i64 x.sport, .int .i64 x.dport, .int .i64 x.seq, .int .i64 x.ack, .int .i64 x.bits, .int .i64 x.window, .int .i64 x.urgent, .int .i64 x.ty, .int .i64 x.code, .int .i64 x.rest, .bool x.nosum, .slice A n c, .slice D m d] 52)).alloc (.cells #[.int .i64 s.k, .int .i64 s.a, .int .i64 s.b, .int .i64 s.c, .int .i64 s.d] 57)).alloc (.cells #[.int .i64 t.k, .int .i64 t.a, .int .i64 t.b, .int .i64 t.c, .int .i64 t.d] 57)).heap[w.heap.size + 1]? = some (.cells #[.int .i64 s.k, .int .i64 s.a, .int .i64 s.b, .int .i64 s.c, .int .i64 s.d] 57)) := Lib.hid (by repeat (first | exact K.newAt (by first | rfl | (simp; done)) | refine K.oldAt (by first | (simp; done) | (simp; omega)) ?_))
  have q2 : Hid ((((w.alloc (.cells #[.int .i64 x.kind, .int .i64 x.sport, .int .i64 x.dport, .int .i64 x.seq, .int .i64 x.ack, .int .i64 x.bits, .int .i64 x.window, .int .i64 x.urgent, .int .i64 x.ty, .int .i64 x.code, .int .i64 x.rest, .bool x.nosum, .slice A n c, .slice D m d] 52)).alloc (.cells #[.int .i64 s.k, .int .i64 s.a, .int .i64 s.b, .int .i64 s.c, .int .i64 s.d] 57)).alloc (.cells #[.int .i64 t.k, .int .i64 t.a, .int .i64 t.b, .int .i64 t.c, .int .i64 t.d] 57)).heap[w.heap.size + 1 + 1]? = some (.cells #[.int .i64 t.k, .int .i64 t.a, .int .i64 t.b, .int .i64 t.c, .int .i64 t.d] 57)) := Lib.hid (by repeat (first | exact K.newAt (by first | rfl | (simp; done)) | refine K.oldAt (by first | (simp; done) | (simp; omega)) ?_))
  have HB : Hid (Below w.heap.size w (((w.alloc (.cells #[.int .i64 x.kind, .int .i64 x.sport, .int .i64 x.dport, .int .i64 x.seq, .int .i64 x.ack, .int .i64 x.bits, .int .i64 x.window, .int .i64 x.urgent, .int .i64 x.ty, .int .i64 x.code, .int .i64 x.rest, .bool x.nosum, .slice A n c, .slice D m d] 52)).alloc (.cells #[.int .i64 s.k, .int .i64 s.a, .int .i64 s.b, .int .i64 s.c, .int .i64 s.d] 57)).alloc (.cells #[.int .i64 t.k, .int .i64 t.a, .int .i64 t.b, .int .i64 t.c, .int .i64 t.d] 57))) := Lib.hid (by go_grown)
  clear h q1 q2
  go_enter Try.func12, Try.ntmps12
  go_wp2_with (with_reducible refine loadLU rfl _ rfl w.heap.size rfl q0.out ?_)
  refine Calls.mono (szUp_no1 x A D n c m d _ _ H.out (by omega) hn) ?_
  rintro e w1 ⟨rfl, b1⟩
  go_wp2
  go_ret
  exact ⟨rfl, bthen HB.out b1⟩

set_option maxHeartbeats 1000000 in
theorem lawUpperBytes_big2 {w : World} (s t : Ad) (x : Uh) (A D : Option Addr) (n c m d : Nat) (h1 : n ≤ 1048576) (h : 1048576 < n + m) (hm : m ≤ maxLen) : Calls Try.prog 12 #[.agg #[.int .i64 x.kind, .int .i64 x.sport, .int .i64 x.dport, .int .i64 x.seq, .int .i64 x.ack, .int .i64 x.bits, .int .i64 x.window, .int .i64 x.urgent, .int .i64 x.ty, .int .i64 x.code, .int .i64 x.rest, .bool x.nosum, .slice A n c, .slice D m d], .agg #[.int .i64 s.k, .int .i64 s.a, .int .i64 s.b, .int .i64 s.c, .int .i64 s.d], .agg #[.int .i64 t.k, .int .i64 t.a, .int .i64 t.b, .int .i64 t.c, .int .i64 t.d]] w fun e w' => e = .returned (.bool true) ∧ Below w.heap.size w w' := by
  have H := Lib.hid (show (1048576 : Int) < n + m by omega)
  have q0 : Hid ((((w.alloc (.cells #[.int .i64 x.kind, .int .i64 x.sport, .int .i64 x.dport, .int .i64 x.seq, .int .i64 x.ack, .int .i64 x.bits, .int .i64 x.window, .int .i64 x.urgent, .int .i64 x.ty, .int .i64 x.code, .int .i64 x.rest, .bool x.nosum, .slice A n c, .slice D m d] 52)).alloc (.cells #[.int .i64 s.k, .int .i64 s.a, .int .i64 s.b, .int .i64 s.c, .int .i64 s.d] 57)).alloc (.cells #[.int .i64 t.k, .int .i64 t.a, .int .i64 t.b, .int .i64 t.c, .int .i64 t.d] 57)).heap[w.heap.size]? = some (.cells #[.int .i64 x.kind, .int .i64 x.sport, .int .i64 x.dport, .int .i64 x.seq, .int .i64 x.ack, .int .i64 x.bits, .int .i64 x.window, .int .i64 x.urgent, .int .i64 x.ty, .int .i64 x.code, .int .i64 x.rest, .bool x.nosum, .slice A n c, .slice D m d] 52)) := Lib.hid (by repeat (first | exact K.newAt (by first | rfl | (simp; done)) | refine K.oldAt (by first | (simp; done) | (simp; omega)) ?_))
  have q1 : Hid ((((w.alloc (.cells #[.int .i64 x.kind, .int .i64 x.sport, .int .i64 x.dport, .int .i64 x.seq, .int .i64 x.ack, .int .i64 x.bits, .int .i64 x.window, .int .i64 x.urgent, .int .i64 x.ty, .int .i64 x.code, .int .i64 x.rest, .bool x.nosum, .slice A n c, .slice D m d] 52)).alloc (.cells #[.int .i64 s.k, .int .i64 s.a, .int .i64 s.b, .int .i64 s.c, .int .i64 s.d] 57)).alloc (.cells #[.int .i64 t.k, .int .i64 t.a, .int .i64 t.b, .int .i64 t.c, .int .i64 t.d] 57)).heap[w.heap.size + 1]? = some (.cells #[.int .i64 s.k, .int .i64 s.a, .int .i64 s.b, .int .i64 s.c, .int .i64 s.d] 57)) := Lib.hid (by repeat (first | exact K.newAt (by first | rfl | (simp; done)) | refine K.oldAt (by first | (simp; done) | (simp; omega)) ?_))
  have q2 : Hid ((((w.alloc (.cells #[.int .i64 x.kind, .int .i64 x.sport, .int .i64 x.dport, .int .i64 x.seq, .int .i64 x.ack, .int .i64 x.bits, .int .i64 x.window, .int .i64 x.urgent, .int .i64 x.ty, .int .i64 x.code, .int .i64 x.rest, .bool x.nosum, .slice A n c, .slice D m d] 52)).alloc (.cells #[.int .i64 s.k, .int .i64 s.a, .int .i64 s.b, .int .i64 s.c, .int .i64 s.d] 57)).alloc (.cells #[.int .i64 t.k, .int .i64 t.a, .int .i64 t.b, .int .i64 t.c, .int .i64 t.d] 57)).heap[w.heap.size + 1 + 1]? = some (.cells #[.int .i64 t.k, .int .i64 t.a, .int .i64 t.b, .int .i64 t.c, .int .i64 t.d] 57)) := Lib.hid (by repeat (first | exact K.newAt (by first | rfl | (simp; done)) | refine K.oldAt (by first | (simp; done) | (simp; omega)) ?_))
  have HB : Hid (Below w.heap.size w (((w.alloc (.cells #[.int .i64 x.kind, .int .i64 x.sport, .int .i64 x.dport, .int .i64 x.seq, .int .i64 x.ack, .int .i64 x.bits, .int .i64 x.window, .int .i64 x.urgent, .int .i64 x.ty, .int .i64 x.code, .int .i64 x.rest, .bool x.nosum, .slice A n c, .slice D m d] 52)).alloc (.cells #[.int .i64 s.k, .int .i64 s.a, .int .i64 s.b, .int .i64 s.c, .int .i64 s.d] 57)).alloc (.cells #[.int .i64 t.k, .int .i64 t.a, .int .i64 t.b, .int .i64 t.c, .int .i64 t.d] 57))) := Lib.hid (by go_grown)
  clear h q1 q2
  go_enter Try.func12, Try.ntmps12
  go_wp2_with (with_reducible refine loadLU rfl _ rfl w.heap.size rfl q0.out ?_)
  refine Calls.mono (szUp_no2 x A D n c m d _ _ (by omega) (by omega) H.out hm) ?_
  rintro e w1 ⟨rfl, b1⟩
  go_wp2
  go_ret
  exact ⟨rfl, bthen HB.out b1⟩

set_option maxHeartbeats 8000000 in
theorem lawUpperBytes_small {w : World} (s t : Ad) (x : Uh) (A D : Option Addr) (n c m d : Nat) (os bs : List UInt8) (hr : RB w w.heap.size A os) (hl : os.length = n) (hs : RB w w.heap.size D bs) (hk : bs.length = m) (hn : n + m ≤ 1048576) : Calls Try.prog 12 #[.agg #[.int .i64 x.kind, .int .i64 x.sport, .int .i64 x.dport, .int .i64 x.seq, .int .i64 x.ack, .int .i64 x.bits, .int .i64 x.window, .int .i64 x.urgent, .int .i64 x.ty, .int .i64 x.code, .int .i64 x.rest, .bool x.nosum, .slice A n c, .slice D m d], .agg #[.int .i64 s.k, .int .i64 s.a, .int .i64 s.b, .int .i64 s.c, .int .i64 s.d], .agg #[.int .i64 t.k, .int .i64 t.a, .int .i64 t.b, .int .i64 t.c, .int .i64 t.d]] w fun e w' => e = .returned (.bool true) ∧ Below w.heap.size w w' := by
  have HL := Lib.hid hl
  have HK := Lib.hid hk
  have R0 := Lib.hid hr
  have S0 := Lib.hid hs
  have hL5 := Uh.out_len (x := x) (o := os) (bs := bs) (a := s) (b := t)
  obtain ⟨ds, hds⟩ : ∃ ds, x.out os bs s t = ds := ⟨_, rfl⟩
  rw [hds] at hL5
  obtain ⟨L, hL⟩ : ∃ L, ds.length = L := ⟨_, rfl⟩
  rw [hL] at hL5
  have HE := Lib.hid hL
  have HD := Lib.hid hds
  have CS := Lib.hid (fun A D c d v (r : RB v v.heap.size A os) (q : RB v v.heap.size D bs) => (hds ▸ ubS x s t A D n c m d os bs v r hl q hk (by omega) (by omega)).mono fun _ _ h => encOwn hL h)
  have CI := Lib.hid (fun A D c d v (r : RB v v.heap.size A os) (q : RB v v.heap.size D bs) => (hds ▸ ubI x s t A D n c m d os bs v r hl q hk (by omega) (by omega)).mono fun _ _ h => encOwn hL h)
  have q0 : Hid ((((w.alloc (.cells #[.int .i64 x.kind, .int .i64 x.sport, .int .i64 x.dport, .int .i64 x.seq, .int .i64 x.ack, .int .i64 x.bits, .int .i64 x.window, .int .i64 x.urgent, .int .i64 x.ty, .int .i64 x.code, .int .i64 x.rest, .bool x.nosum, .slice A n c, .slice D m d] 52)).alloc (.cells #[.int .i64 s.k, .int .i64 s.a, .int .i64 s.b, .int .i64 s.c, .int .i64 s.d] 57)).alloc (.cells #[.int .i64 t.k, .int .i64 t.a, .int .i64 t.b, .int .i64 t.c, .int .i64 t.d] 57)).heap[w.heap.size]? = some (.cells #[.int .i64 x.kind, .int .i64 x.sport, .int .i64 x.dport, .int .i64 x.seq, .int .i64 x.ack, .int .i64 x.bits, .int .i64 x.window, .int .i64 x.urgent, .int .i64 x.ty, .int .i64 x.code, .int .i64 x.rest, .bool x.nosum, .slice A n c, .slice D m d] 52)) := Lib.hid (by repeat (first | exact K.newAt (by first | rfl | (simp; done)) | refine K.oldAt (by first | (simp; done) | (simp; omega)) ?_))
  have q1 : Hid ((((w.alloc (.cells #[.int .i64 x.kind, .int .i64 x.sport, .int .i64 x.dport, .int .i64 x.seq, .int .i64 x.ack, .int .i64 x.bits, .int .i64 x.window, .int .i64 x.urgent, .int .i64 x.ty, .int .i64 x.code, .int .i64 x.rest, .bool x.nosum, .slice A n c, .slice D m d] 52)).alloc (.cells #[.int .i64 s.k, .int .i64 s.a, .int .i64 s.b, .int .i64 s.c, .int .i64 s.d] 57)).alloc (.cells #[.int .i64 t.k, .int .i64 t.a, .int .i64 t.b, .int .i64 t.c, .int .i64 t.d] 57)).heap[w.heap.size + 1]? = some (.cells #[.int .i64 s.k, .int .i64 s.a, .int .i64 s.b, .int .i64 s.c, .int .i64 s.d] 57)) := Lib.hid (by repeat (first | exact K.newAt (by first | rfl | (simp; done)) | refine K.oldAt (by first | (simp; done) | (simp; omega)) ?_))
  have q2 : Hid ((((w.alloc (.cells #[.int .i64 x.kind, .int .i64 x.sport, .int .i64 x.dport, .int .i64 x.seq, .int .i64 x.ack, .int .i64 x.bits, .int .i64 x.window, .int .i64 x.urgent, .int .i64 x.ty, .int .i64 x.code, .int .i64 x.rest, .bool x.nosum, .slice A n c, .slice D m d] 52)).alloc (.cells #[.int .i64 s.k, .int .i64 s.a, .int .i64 s.b, .int .i64 s.c, .int .i64 s.d] 57)).alloc (.cells #[.int .i64 t.k, .int .i64 t.a, .int .i64 t.b, .int .i64 t.c, .int .i64 t.d] 57)).heap[w.heap.size + 1 + 1]? = some (.cells #[.int .i64 t.k, .int .i64 t.a, .int .i64 t.b, .int .i64 t.c, .int .i64 t.d] 57)) := Lib.hid (by repeat (first | exact K.newAt (by first | rfl | (simp; done)) | refine K.oldAt (by first | (simp; done) | (simp; omega)) ?_))
  have HB : Hid (Below w.heap.size w (((w.alloc (.cells #[.int .i64 x.kind, .int .i64 x.sport, .int .i64 x.dport, .int .i64 x.seq, .int .i64 x.ack, .int .i64 x.bits, .int .i64 x.window, .int .i64 x.urgent, .int .i64 x.ty, .int .i64 x.code, .int .i64 x.rest, .bool x.nosum, .slice A n c, .slice D m d] 52)).alloc (.cells #[.int .i64 s.k, .int .i64 s.a, .int .i64 s.b, .int .i64 s.c, .int .i64 s.d] 57)).alloc (.cells #[.int .i64 t.k, .int .i64 t.a, .int .i64 t.b, .int .i64 t.c, .int .i64 t.d] 57))) := Lib.hid (by go_grown)
  clear hl hr hk hs hds hL HD
  go_enter Try.func12, Try.ntmps12
  go_wp2_with (with_reducible refine loadLU rfl _ rfl w.heap.size rfl q0.out ?_)
  refine Calls.mono (szUp_yes x A D n c m d _ _ (by omega) (by omega)) ?_
  rintro e w1 ⟨⟨r, rfl, hr0⟩, b1⟩
  have p0 := Lib.hid (K.below b1 q0.out)
  have p1 := Lib.hid (K.below b1 q1.out)
  have p2 := Lib.hid (K.below b1 q2.out)
  have B1 := Lib.hid (bthen HB.out b1)
  clear b1 q0 q1 q2 HB
  go_wp2_with fail
  refine wp_region_prs (by kernel_rfl) 7 85 [(0, 20), (1, 21), (2, 22), (3, 23), (4, 24), (5, 25), (6, 26)] _ ([.val (.agg #[.int .i64 x.kind, .int .i64 x.sport, .int .i64 x.dport, .int .i64 x.seq, .int .i64 x.ack, .int .i64 x.bits, .int .i64 x.window, .int .i64 x.urgent, .int .i64 x.ty, .int .i64 x.code, .int .i64 x.rest, .bool x.nosum, .slice A n c, .slice D m d]), .pr (UpCp x os bs n m) UpCp.on, .val (.agg #[.int .i64 s.k, .int .i64 s.a, .int .i64 s.b, .int .i64 s.c, .int .i64 s.d]), .val (.agg #[.int .i64 s.k, .int .i64 s.a, .int .i64 s.b, .int .i64 s.c, .int .i64 s.d]), .val (.agg #[.int .i64 t.k, .int .i64 t.a, .int .i64 t.b, .int .i64 t.c, .int .i64 t.d]), .val (.agg #[.int .i64 t.k, .int .i64 t.a, .int .i64 t.b, .int .i64 t.c, .int .i64 t.d]), .pr (OwnS w1.heap.size L ds) OwnS.on]) (by kernel_rfl) (by kernel_rfl) rfl rfl ?_ ?_
  · intro j o hj ho a' v K' hx hnd hB hK
    match j, hj, ho with
    | 0, _, ho =>
      obtain rfl := Option.some.inj ho
      have h0 : a'.eval (.tmp 3) = .pointer (some ⟨w.heap.size, 0, none⟩) := (hx 3 (by decide)).trans rfl
      exact wp_load_row 52 _ rfl w.heap.size h0 _ _ (0, 0) _ (K.below hB p0.out) Try.underlying52 rfl info_lup (hK _ _ rfl (Below.refl _ _))
    | 1, _, ho =>
      obtain rfl := Option.some.inj ho
      have h0 : a'.eval (.tmp 20) = .agg #[.int .i64 x.kind, .int .i64 x.sport, .int .i64 x.dport, .int .i64 x.seq, .int .i64 x.ack, .int .i64 x.bits, .int .i64 x.window, .int .i64 x.urgent, .int .i64 x.ty, .int .i64 x.code, .int .i64 x.rest, .bool x.nosum, .slice A n c, .slice D m d] := (prs_of hnd 0 20 (by kernel_rfl) :)
      refine u_toUpperY _ _ _ rfl h0 (Calls.mono (toUpC x A D n c m d os bs v ((R0.out.below (bthen B1.out hB)).more (bthen B1.out hB).size) HL.out (by omega) ((S0.out.below (bthen B1.out hB)).more (bthen B1.out hB).size) HK.out (by omega)) ?_)
      rintro e' v' ⟨A6, c6, D6, d6, rfl, o6, p6, _, b6⟩
      exact ⟨_, rfl, hK _ _ ⟨A6, c6, D6, d6, rfl, RB.of_own o6, RB.of_own p6⟩ b6⟩
    | 2, _, ho =>
      obtain rfl := Option.some.inj ho
      have h0 : a'.eval (.tmp 4) = .pointer (some ⟨w.heap.size + 1, 0, none⟩) := (hx 4 (by decide)).trans rfl
      exact wp_load_row 57 _ rfl (w.heap.size + 1) h0 _ _ (0, 0) _ (K.below hB p1.out) Try.underlying57 rfl info_laddrP (hK _ _ rfl (Below.refl _ _))
    | 3, _, ho =>
      obtain rfl := Option.some.inj ho
      have h0 : a'.eval (.tmp 22) = .agg #[.int .i64 s.k, .int .i64 s.a, .int .i64 s.b, .int .i64 s.c, .int .i64 s.d] := (prs_of hnd 2 22 (by kernel_rfl) :)
      refine u_toAddrY _ _ _ rfl h0 (Calls.mono (toAddrC s v) ?_)
      rintro e' v' ⟨rfl, b6⟩
      exact ⟨_, rfl, hK _ _ rfl b6⟩
    | 4, _, ho =>
      obtain rfl := Option.some.inj ho
      have h0 : a'.eval (.tmp 5) = .pointer (some ⟨w.heap.size + 2, 0, none⟩) := (hx 5 (by decide)).trans rfl
      exact wp_load_row 57 _ rfl (w.heap.size + 2) h0 _ _ (0, 0) _ (K.below hB p2.out) Try.underlying57 rfl info_laddrP (hK _ _ rfl (Below.refl _ _))
    | 5, _, ho =>
      obtain rfl := Option.some.inj ho
      have h0 : a'.eval (.tmp 24) = .agg #[.int .i64 t.k, .int .i64 t.a, .int .i64 t.b, .int .i64 t.c, .int .i64 t.d] := (prs_of hnd 4 24 (by kernel_rfl) :)
      refine u_toAddrY _ _ _ rfl h0 (Calls.mono (toAddrC t v) ?_)
      rintro e' v' ⟨rfl, b6⟩
      exact ⟨_, rfl, hK _ _ rfl b6⟩
    | 6, _, ho =>
      obtain rfl := Option.some.inj ho
      obtain ⟨A6, c6, D6, d6, h0, r6, s6⟩ := (prs_of hnd 1 21 (by kernel_rfl) :)
      have h1 : a'.eval (.tmp 23) = .agg #[.int .i64 s.k, .int .i64 s.a, .int .i64 s.b, .int .i64 s.c, .int .i64 s.d] := (prs_of hnd 3 23 (by kernel_rfl) :)
      have h2 : a'.eval (.tmp 25) = .agg #[.int .i64 t.k, .int .i64 t.a, .int .i64 t.b, .int .i64 t.c, .int .i64 t.d] := (prs_of hnd 5 25 (by kernel_rfl) :)
      refine u_byS3 _ _ _ _ _ _ _ rfl h0 h1 h2 (Calls.mono (CS.out A6 D6 c6 d6 v r6 s6) ?_)
      rintro e' v' ⟨X, y, rfl, o6, b6⟩
      exact ⟨_, rfl, hK _ _ ⟨X, y, rfl, own_base o6 hB.size⟩ b6⟩
    | j + 7, hj, _ => omega
  · intro f v hf hB
    have e0 : f 0 = (.agg #[.int .i64 x.kind, .int .i64 x.sport, .int .i64 x.dport, .int .i64 x.seq, .int .i64 x.ack, .int .i64 x.bits, .int .i64 x.window, .int .i64 x.urgent, .int .i64 x.ty, .int .i64 x.code, .int .i64 x.rest, .bool x.nosum, .slice A n c, .slice D m d]) := hf (0, 20) (by decide)
    have e2 : f 2 = (.agg #[.int .i64 s.k, .int .i64 s.a, .int .i64 s.b, .int .i64 s.c, .int .i64 s.d]) := hf (2, 22) (by decide)
    have e3 : f 3 = (.agg #[.int .i64 s.k, .int .i64 s.a, .int .i64 s.b, .int .i64 s.c, .int .i64 s.d]) := hf (3, 23) (by decide)
    have e4 : f 4 = (.agg #[.int .i64 t.k, .int .i64 t.a, .int .i64 t.b, .int .i64 t.c, .int .i64 t.d]) := hf (4, 24) (by decide)
    have e5 : f 5 = (.agg #[.int .i64 t.k, .int .i64 t.a, .int .i64 t.b, .int .i64 t.c, .int .i64 t.d]) := hf (5, 25) (by decide)
    have OW := hf (6, 26) (by decide)
    simp only [List.foldl_cons, List.foldl_nil, List.drop_succ_cons, List.drop_zero, e0, e2, e3, e4, e5]
    clear e0 e2 e3 e4 e5 hf
    go_simp
    obtain ⟨Aw, cw, e6, ow⟩ := OW
    rw [e6]
    clear e6
    have W2 := Lib.hid ow
    have LW := Lib.hid (fun k hk => (ow.lt k hk))
    clear ow
    have B2 := Lib.hid (bthen B1.out hB)
    have r0 := Lib.hid (K.below hB p0.out)
    have r1 := Lib.hid (K.below hB p1.out)
    have r2 := Lib.hid (K.below hB p2.out)
    clear hB p0 p1 p2 hr0
    go_wp2_with (with_reducible refine loadLU rfl _ rfl w.heap.size rfl r0.out ?_)
    refine Calls.mono (toUpC x A D n c m d os bs _ ((R0.out.below B2.out).more B2.out.size) HL.out (by omega) ((S0.out.below B2.out).more B2.out.size) HK.out (by omega)) ?_
    rintro e w4 ⟨A4, c4, D4, d4, rfl, o4, p4, a4, b4⟩
    have t0 := Lib.hid (K.old (K.below b4 r0.out) (.cells #[.int .i64 x.kind, .int .i64 x.sport, .int .i64 x.dport, .int .i64 x.seq, .int .i64 x.ack, .int .i64 x.bits, .int .i64 x.window, .int .i64 x.urgent, .int .i64 x.ty, .int .i64 x.code, .int .i64 x.rest, .bool x.nosum, .slice A4 n c4, .slice D4 m d4] 38))
    have t1 := Lib.hid (K.old (K.below b4 r1.out) (.cells #[.int .i64 x.kind, .int .i64 x.sport, .int .i64 x.dport, .int .i64 x.seq, .int .i64 x.ack, .int .i64 x.bits, .int .i64 x.window, .int .i64 x.urgent, .int .i64 x.ty, .int .i64 x.code, .int .i64 x.rest, .bool x.nosum, .slice A4 n c4, .slice D4 m d4] 38))
    have t2 := Lib.hid (K.old (K.below b4 r2.out) (.cells #[.int .i64 x.kind, .int .i64 x.sport, .int .i64 x.dport, .int .i64 x.seq, .int .i64 x.ack, .int .i64 x.bits, .int .i64 x.window, .int .i64 x.urgent, .int .i64 x.ty, .int .i64 x.code, .int .i64 x.rest, .bool x.nosum, .slice A4 n c4, .slice D4 m d4] 38))
    have B4 := Lib.hid (bthen (bthen B2.out b4) (Joins.below_alloc1 w4 (.cells #[.int .i64 x.kind, .int .i64 x.sport, .int .i64 x.dport, .int .i64 x.seq, .int .i64 x.ack, .int .i64 x.bits, .int .i64 x.window, .int .i64 x.urgent, .int .i64 x.ty, .int .i64 x.code, .int .i64 x.rest, .bool x.nosum, .slice A4 n c4, .slice D4 m d4] 38)))
    have O4 := Lib.hid (o4.alloc (.cells #[.int .i64 x.kind, .int .i64 x.sport, .int .i64 x.dport, .int .i64 x.seq, .int .i64 x.ack, .int .i64 x.bits, .int .i64 x.window, .int .i64 x.urgent, .int .i64 x.ty, .int .i64 x.code, .int .i64 x.rest, .bool x.nosum, .slice A4 n c4, .slice D4 m d4] 38))
    have P4 := Lib.hid (p4.alloc (.cells #[.int .i64 x.kind, .int .i64 x.sport, .int .i64 x.dport, .int .i64 x.seq, .int .i64 x.ack, .int .i64 x.bits, .int .i64 x.window, .int .i64 x.urgent, .int .i64 x.ty, .int .i64 x.code, .int .i64 x.rest, .bool x.nosum, .slice A4 n c4, .slice D4 m d4] 38))
    have W4 := Lib.hid ((own_below W2.out b4).alloc (.cells #[.int .i64 x.kind, .int .i64 x.sport, .int .i64 x.dport, .int .i64 x.seq, .int .i64 x.ack, .int .i64 x.bits, .int .i64 x.window, .int .i64 x.urgent, .int .i64 x.ty, .int .i64 x.code, .int .i64 x.rest, .bool x.nosum, .slice A4 n c4, .slice D4 m d4] 38))
    have y4 := Lib.hid (K.new w4 (.cells #[.int .i64 x.kind, .int .i64 x.sport, .int .i64 x.dport, .int .i64 x.seq, .int .i64 x.ack, .int .i64 x.bits, .int .i64 x.window, .int .i64 x.urgent, .int .i64 x.ty, .int .i64 x.code, .int .i64 x.rest, .bool x.nosum, .slice A4 n c4, .slice D4 m d4] 38))
    have LA := Lib.hid o4.lt
    have LD := Lib.hid p4.lt
    have AP := Lib.hid a4
    have LT := Lib.hid b4.size
    have LB := Lib.hid B2.out.size
    have LR := Lib.hid (K.lt r2.out)
    clear o4 p4 a4 b4 r0 r1 r2
    go_wp2_with (with_reducible refine storeNewU rfl _ _ rfl rfl rfl ?_)
    refine wp_region_prs (by kernel_rfl) 6 85 [(0, 29), (1, 30), (2, 31), (3, 32), (4, 33), (5, 34)] _ ([.val (.agg #[.int .i64 x.kind, .int .i64 x.sport, .int .i64 x.dport, .int .i64 x.seq, .int .i64 x.ack, .int .i64 x.bits, .int .i64 x.window, .int .i64 x.urgent, .int .i64 x.ty, .int .i64 x.code, .int .i64 x.rest, .bool x.nosum, .slice A4 n c4, .slice D4 m d4]), .val (.agg #[.int .i64 s.k, .int .i64 s.a, .int .i64 s.b, .int .i64 s.c, .int .i64 s.d]), .val (.agg #[.int .i64 s.k, .int .i64 s.a, .int .i64 s.b, .int .i64 s.c, .int .i64 s.d]), .val (.agg #[.int .i64 t.k, .int .i64 t.a, .int .i64 t.b, .int .i64 t.c, .int .i64 t.d]), .val (.agg #[.int .i64 t.k, .int .i64 t.a, .int .i64 t.b, .int .i64 t.c, .int .i64 t.d]), .pr (OwnS (w4.heap.size + 1) L ds) OwnS.on]) (by kernel_rfl) (by kernel_rfl) rfl rfl ?_ ?_
    · intro j o hj ho a' v K' hx hnd hB hK
      match j, hj, ho with
      | 0, _, ho =>
        obtain rfl := Option.some.inj ho
        have h0 : a'.eval (.tmp 9) = .pointer (some ⟨w4.heap.size, 0, none⟩) := (hx 9 (by decide)).trans rfl
        exact wp_load_row 38 _ rfl w4.heap.size h0 _ _ (0, 0) _ (K.below hB y4.out) Try.underlying38 rfl info_up (hK _ _ rfl (Below.refl _ _))
      | 1, _, ho =>
        obtain rfl := Option.some.inj ho
        have h0 : a'.eval (.tmp 4) = .pointer (some ⟨w.heap.size + 1, 0, none⟩) := (hx 4 (by decide)).trans rfl
        exact wp_load_row 57 _ rfl (w.heap.size + 1) h0 _ _ (0, 0) _ (K.below hB t1.out) Try.underlying57 rfl info_laddrP (hK _ _ rfl (Below.refl _ _))
      | 2, _, ho =>
        obtain rfl := Option.some.inj ho
        have h0 : a'.eval (.tmp 30) = .agg #[.int .i64 s.k, .int .i64 s.a, .int .i64 s.b, .int .i64 s.c, .int .i64 s.d] := (prs_of hnd 1 30 (by kernel_rfl) :)
        refine u_toAddrY _ _ _ rfl h0 (Calls.mono (toAddrC s v) ?_)
        rintro e' v' ⟨rfl, b6⟩
        exact ⟨_, rfl, hK _ _ rfl b6⟩
      | 3, _, ho =>
        obtain rfl := Option.some.inj ho
        have h0 : a'.eval (.tmp 5) = .pointer (some ⟨w.heap.size + 2, 0, none⟩) := (hx 5 (by decide)).trans rfl
        exact wp_load_row 57 _ rfl (w.heap.size + 2) h0 _ _ (0, 0) _ (K.below hB t2.out) Try.underlying57 rfl info_laddrP (hK _ _ rfl (Below.refl _ _))
      | 4, _, ho =>
        obtain rfl := Option.some.inj ho
        have h0 : a'.eval (.tmp 32) = .agg #[.int .i64 t.k, .int .i64 t.a, .int .i64 t.b, .int .i64 t.c, .int .i64 t.d] := (prs_of hnd 3 32 (by kernel_rfl) :)
        refine u_toAddrY _ _ _ rfl h0 (Calls.mono (toAddrC t v) ?_)
        rintro e' v' ⟨rfl, b6⟩
        exact ⟨_, rfl, hK _ _ rfl b6⟩
      | 5, _, ho =>
        obtain rfl := Option.some.inj ho
        have h0 : a'.eval (.tmp 29) = .agg #[.int .i64 x.kind, .int .i64 x.sport, .int .i64 x.dport, .int .i64 x.seq, .int .i64 x.ack, .int .i64 x.bits, .int .i64 x.window, .int .i64 x.urgent, .int .i64 x.ty, .int .i64 x.code, .int .i64 x.rest, .bool x.nosum, .slice A4 n c4, .slice D4 m d4] := (prs_of hnd 0 29 (by kernel_rfl) :)
        have h1 : a'.eval (.tmp 31) = .agg #[.int .i64 s.k, .int .i64 s.a, .int .i64 s.b, .int .i64 s.c, .int .i64 s.d] := (prs_of hnd 2 31 (by kernel_rfl) :)
        have h2 : a'.eval (.tmp 33) = .agg #[.int .i64 t.k, .int .i64 t.a, .int .i64 t.b, .int .i64 t.c, .int .i64 t.d] := (prs_of hnd 4 33 (by kernel_rfl) :)
        refine u_byI3 _ _ _ _ _ _ _ rfl h0 h1 h2 (Calls.mono (CI.out A4 D4 c4 d4 v (RB.of_own (own_below O4.out hB)) (RB.of_own (own_below P4.out hB))) ?_)
        rintro e' v' ⟨X, y, rfl, o6, b6⟩
        exact ⟨_, rfl, hK _ _ ⟨X, y, rfl, own_base o6 (by have := hB.size; simpa using this)⟩ b6⟩
      | j + 6, hj, _ => omega
    · intro f v hf hB
      have e0 : f 0 = (.agg #[.int .i64 x.kind, .int .i64 x.sport, .int .i64 x.dport, .int .i64 x.seq, .int .i64 x.ack, .int .i64 x.bits, .int .i64 x.window, .int .i64 x.urgent, .int .i64 x.ty, .int .i64 x.code, .int .i64 x.rest, .bool x.nosum, .slice A4 n c4, .slice D4 m d4]) := hf (0, 29) (by decide)
      have e1 : f 1 = (.agg #[.int .i64 s.k, .int .i64 s.a, .int .i64 s.b, .int .i64 s.c, .int .i64 s.d]) := hf (1, 30) (by decide)
      have e2 : f 2 = (.agg #[.int .i64 s.k, .int .i64 s.a, .int .i64 s.b, .int .i64 s.c, .int .i64 s.d]) := hf (2, 31) (by decide)
      have e3 : f 3 = (.agg #[.int .i64 t.k, .int .i64 t.a, .int .i64 t.b, .int .i64 t.c, .int .i64 t.d]) := hf (3, 32) (by decide)
      have e4 : f 4 = (.agg #[.int .i64 t.k, .int .i64 t.a, .int .i64 t.b, .int .i64 t.c, .int .i64 t.d]) := hf (4, 33) (by decide)
      have OW := hf (5, 34) (by decide)
      simp only [List.foldl_cons, List.foldl_nil, List.drop_succ_cons, List.drop_zero, e0, e1, e2, e3, e4]
      clear e0 e1 e2 e3 e4 hf
      go_simp
      obtain ⟨Ag, cg, e6, og⟩ := OW
      rw [e6]
      clear e6
      have G5 := Lib.hid og
      have LG := Lib.hid (fun k hk => (og.lt k hk))
      clear og
      have B5 := Lib.hid (bthen B4.out hB)
      have q5 := Lib.hid (K.below hB t0.out)
      have u5 := Lib.hid (K.below hB t1.out)
      have v5 := Lib.hid (K.below hB t2.out)
      have r5 := Lib.hid (K.below hB y4.out)
      have O5 := Lib.hid (own_below O4.out hB)
      have P5 := Lib.hid (own_below P4.out hB)
      have W5 := Lib.hid (own_below W4.out hB)
      clear hB t0 t1 t2 y4 O4 P4 W4 B4
      go_wp2_with fail
      refine Calls.mono (eqBn Ag Aw L cg cw ds _ (RB.of_own G5.out) (RB.of_own W5.out) HE.out (by omega)) ?_
      rintro e w6 ⟨rfl, b6⟩
      have q6 := Lib.hid (K.below b6 q5.out)
      have u6 := Lib.hid (K.below b6 u5.out)
      have v6 := Lib.hid (K.below b6 v5.out)
      have W6 := Lib.hid (own_below W5.out b6)
      have G6 := Lib.hid (own_below G5.out b6)
      have B6 := Lib.hid (bthen B5.out b6)
      have r6 := Lib.hid (K.below b6 r5.out)
      have O6 := Lib.hid (own_below O5.out b6)
      have P6 := Lib.hid (own_below P5.out b6)
      clear b6 q5 u5 v5 W5 G5 B5 r5 O5 P5
      go_wp2_with fail
      refine sameUpRegion 85 3 9 39 w.heap.size w4.heap.size _ _ _ _ _ _ _ _ rfl (by kernel_rfl) rfl (by omega) ⟨rfl, rfl⟩ ⟨rfl, rfl⟩ ⟨rfl, rfl⟩ ⟨rfl, rfl⟩ ⟨rfl, rfl⟩ (by kernel_rfl) (by kernel_rfl) (by kernel_rfl) (by kernel_rfl) rfl rfl x A D A4 D4 n c m d c4 d4 os bs q6.out r6.out ((R0.out.below B6.out).more B6.out.size) ((S0.out.below B6.out).more B6.out.size) (RB.of_own O6.out) (RB.of_own P6.out) HL.out HK.out (by omega) (by omega) ?_
      intro w7 uu7 b7
      have q7 := Lib.hid (K.below b7 q6.out)
      have u7 := Lib.hid (K.below b7 u6.out)
      have v7 := Lib.hid (K.below b7 v6.out)
      have W7 := Lib.hid (own_below W6.out b7)
      have G7 := Lib.hid (own_below G6.out b7)
      have B7 := Lib.hid (bthen B6.out b7)
      have r7 := Lib.hid (K.below b7 r6.out)
      have O7 := Lib.hid (own_below O6.out b7)
      have P7 := Lib.hid (own_below P6.out b7)
      clear b7 q6 u6 v6 W6 G6 B6 r6 O6 P6
      go_simp
      go_wp2_with (with_reducible refine loadU rfl _ rfl w4.heap.size rfl r7.out ?_)
      refine Calls.mono (markUpW x A4 D4 n c4 m d4 _ os bs _ O7.out P7.out AP.out hn) ?_
      rintro e w8 ⟨rfl, u_, g8, h8⟩
      have q8 := Lib.hid (K.kept h8 (K.kept g8 q7.out (fun k hk => by have := LA.out k hk; have := LR.out; omega)) (fun k hk => by have := LD.out k hk; have := LR.out; omega))
      have u8 := Lib.hid (K.kept h8 (K.kept g8 u7.out (fun k hk => by have := LA.out k hk; have := LR.out; omega)) (fun k hk => by have := LD.out k hk; have := LR.out; omega))
      have v8 := Lib.hid (K.kept h8 (K.kept g8 v7.out (fun k hk => by have := LA.out k hk; have := LR.out; omega)) (fun k hk => by have := LD.out k hk; have := LR.out; omega))
      have G8 := Lib.hid (own_grown (own_grown G7.out g8 (fun k h1 h2 => by have := LG.out k h1; have := LA.out k h2; omega)) h8 (fun k h1 h2 => by have := LG.out k h1; have := LD.out k h2; omega))
      have W8 := Lib.hid (own_grown (own_grown W7.out g8 (fun k h1 h2 => by have := LW.out k h1; have := LA.out k h2; omega)) h8 (fun k h1 h2 => by have := LW.out k h1; have := LD.out k h2; omega))
      have B8 := Lib.hid (bgrown (bgrown B7.out g8 (fun k hk => by have := LA.out k hk; have := LB.out; omega)) h8 (fun k hk => by have := LD.out k hk; have := LB.out; omega))
      clear g8 h8 q7 u7 v7 G7 W7 B7 r7 O7 P7
      go_wp2_with fail
      refine Calls.mono (eqBn Ag Aw L cg cw ds _ (RB.of_own G8.out) (RB.of_own W8.out) HE.out (by omega)) ?_
      rintro e w9 ⟨rfl, b9⟩
      have q9 := Lib.hid (K.below b9 q8.out)
      have u9 := Lib.hid (K.below b9 u8.out)
      have v9 := Lib.hid (K.below b9 v8.out)
      have W9 := Lib.hid (own_below W8.out b9)
      have G9 := Lib.hid (own_below G8.out b9)
      have B9 := Lib.hid (bthen B8.out b9)
      clear b9 q8 u8 v8 W8 G8 B8
      go_wp2_with fail
      refine Calls.mono (markBn Ag L cg _ ds 1 _ G9.out (by omega) (by omega) (by omega)) ?_
      rintro e wa ⟨rfl, oa, ga⟩
      have Ga := Lib.hid oa
      have Wa := Lib.hid (own_grown W9.out ga (fun k h1 h2 => by have := LW.out k h1; have := LG.out k h2; have := LT.out; omega))
      have qa := Lib.hid (K.kept ga q9.out (fun k hk => by have := LG.out k hk; have := LR.out; have := LT.out; omega))
      have ua := Lib.hid (K.kept ga u9.out (fun k hk => by have := LG.out k hk; have := LR.out; have := LT.out; omega))
      have va := Lib.hid (K.kept ga v9.out (fun k hk => by have := LG.out k hk; have := LR.out; have := LT.out; omega))
      have Ba := Lib.hid (bgrown B9.out ga (fun k hk => by have := LG.out k hk; have := LB.out; have := LT.out; omega))
      clear oa ga q9 u9 v9 W9 G9 B9
      go_wp2_with fail
      refine Calls.mono (heldBn Ag L cg 1 _ (RB.of_own Ga.out) (by omega) (by omega) (by omega)) ?_
      rintro e wb ⟨rfl, rfl⟩
      go_wp2_with fail
      refine wp_region_prs (by kernel_rfl) 7 85 [(0, 66), (1, 67), (2, 68), (3, 69), (4, 70), (5, 71), (6, 72)] _ ([.val (.agg #[.int .i64 x.kind, .int .i64 x.sport, .int .i64 x.dport, .int .i64 x.seq, .int .i64 x.ack, .int .i64 x.bits, .int .i64 x.window, .int .i64 x.urgent, .int .i64 x.ty, .int .i64 x.code, .int .i64 x.rest, .bool x.nosum, .slice A n c, .slice D m d]), .pr (UpCp x os bs n m) UpCp.on, .val (.agg #[.int .i64 s.k, .int .i64 s.a, .int .i64 s.b, .int .i64 s.c, .int .i64 s.d]), .val (.agg #[.int .i64 s.k, .int .i64 s.a, .int .i64 s.b, .int .i64 s.c, .int .i64 s.d]), .val (.agg #[.int .i64 t.k, .int .i64 t.a, .int .i64 t.b, .int .i64 t.c, .int .i64 t.d]), .val (.agg #[.int .i64 t.k, .int .i64 t.a, .int .i64 t.b, .int .i64 t.c, .int .i64 t.d]), .pr (OwnS wa.heap.size L ds) OwnS.on]) (by kernel_rfl) (by kernel_rfl) rfl rfl ?_ ?_
      · intro j o hj ho a' v K' hx hnd hB hK
        match j, hj, ho with
        | 0, _, ho =>
          obtain rfl := Option.some.inj ho
          have h0 : a'.eval (.tmp 3) = .pointer (some ⟨w.heap.size, 0, none⟩) := (hx 3 (by decide)).trans rfl
          exact wp_load_row 52 _ rfl w.heap.size h0 _ _ (0, 0) _ (K.below hB qa.out) Try.underlying52 rfl info_lup (hK _ _ rfl (Below.refl _ _))
        | 1, _, ho =>
          obtain rfl := Option.some.inj ho
          have h0 : a'.eval (.tmp 66) = .agg #[.int .i64 x.kind, .int .i64 x.sport, .int .i64 x.dport, .int .i64 x.seq, .int .i64 x.ack, .int .i64 x.bits, .int .i64 x.window, .int .i64 x.urgent, .int .i64 x.ty, .int .i64 x.code, .int .i64 x.rest, .bool x.nosum, .slice A n c, .slice D m d] := (prs_of hnd 0 66 (by kernel_rfl) :)
          refine u_toUpperY _ _ _ rfl h0 (Calls.mono (toUpC x A D n c m d os bs v ((R0.out.below (bthen Ba.out hB)).more (bthen Ba.out hB).size) HL.out (by omega) ((S0.out.below (bthen Ba.out hB)).more (bthen Ba.out hB).size) HK.out (by omega)) ?_)
          rintro e' v' ⟨A6, c6, D6, d6, rfl, o6, p6, _, b6⟩
          exact ⟨_, rfl, hK _ _ ⟨A6, c6, D6, d6, rfl, RB.of_own o6, RB.of_own p6⟩ b6⟩
        | 2, _, ho =>
          obtain rfl := Option.some.inj ho
          have h0 : a'.eval (.tmp 4) = .pointer (some ⟨w.heap.size + 1, 0, none⟩) := (hx 4 (by decide)).trans rfl
          exact wp_load_row 57 _ rfl (w.heap.size + 1) h0 _ _ (0, 0) _ (K.below hB ua.out) Try.underlying57 rfl info_laddrP (hK _ _ rfl (Below.refl _ _))
        | 3, _, ho =>
          obtain rfl := Option.some.inj ho
          have h0 : a'.eval (.tmp 68) = .agg #[.int .i64 s.k, .int .i64 s.a, .int .i64 s.b, .int .i64 s.c, .int .i64 s.d] := (prs_of hnd 2 68 (by kernel_rfl) :)
          refine u_toAddrY _ _ _ rfl h0 (Calls.mono (toAddrC s v) ?_)
          rintro e' v' ⟨rfl, b6⟩
          exact ⟨_, rfl, hK _ _ rfl b6⟩
        | 4, _, ho =>
          obtain rfl := Option.some.inj ho
          have h0 : a'.eval (.tmp 5) = .pointer (some ⟨w.heap.size + 2, 0, none⟩) := (hx 5 (by decide)).trans rfl
          exact wp_load_row 57 _ rfl (w.heap.size + 2) h0 _ _ (0, 0) _ (K.below hB va.out) Try.underlying57 rfl info_laddrP (hK _ _ rfl (Below.refl _ _))
        | 5, _, ho =>
          obtain rfl := Option.some.inj ho
          have h0 : a'.eval (.tmp 70) = .agg #[.int .i64 t.k, .int .i64 t.a, .int .i64 t.b, .int .i64 t.c, .int .i64 t.d] := (prs_of hnd 4 70 (by kernel_rfl) :)
          refine u_toAddrY _ _ _ rfl h0 (Calls.mono (toAddrC t v) ?_)
          rintro e' v' ⟨rfl, b6⟩
          exact ⟨_, rfl, hK _ _ rfl b6⟩
        | 6, _, ho =>
          obtain rfl := Option.some.inj ho
          obtain ⟨A6, c6, D6, d6, h0, r6, s6⟩ := (prs_of hnd 1 67 (by kernel_rfl) :)
          have h1 : a'.eval (.tmp 69) = .agg #[.int .i64 s.k, .int .i64 s.a, .int .i64 s.b, .int .i64 s.c, .int .i64 s.d] := (prs_of hnd 3 69 (by kernel_rfl) :)
          have h2 : a'.eval (.tmp 71) = .agg #[.int .i64 t.k, .int .i64 t.a, .int .i64 t.b, .int .i64 t.c, .int .i64 t.d] := (prs_of hnd 5 71 (by kernel_rfl) :)
          refine u_byI3 _ _ _ _ _ _ _ rfl h0 h1 h2 (Calls.mono (CI.out A6 D6 c6 d6 v r6 s6) ?_)
          rintro e' v' ⟨X, y, rfl, o6, b6⟩
          exact ⟨_, rfl, hK _ _ ⟨X, y, rfl, own_base o6 hB.size⟩ b6⟩
        | j + 7, hj, _ => omega
      · intro f v hf hB
        have e0 : f 0 = (.agg #[.int .i64 x.kind, .int .i64 x.sport, .int .i64 x.dport, .int .i64 x.seq, .int .i64 x.ack, .int .i64 x.bits, .int .i64 x.window, .int .i64 x.urgent, .int .i64 x.ty, .int .i64 x.code, .int .i64 x.rest, .bool x.nosum, .slice A n c, .slice D m d]) := hf (0, 66) (by decide)
        have e2 : f 2 = (.agg #[.int .i64 s.k, .int .i64 s.a, .int .i64 s.b, .int .i64 s.c, .int .i64 s.d]) := hf (2, 68) (by decide)
        have e3 : f 3 = (.agg #[.int .i64 s.k, .int .i64 s.a, .int .i64 s.b, .int .i64 s.c, .int .i64 s.d]) := hf (3, 69) (by decide)
        have e4 : f 4 = (.agg #[.int .i64 t.k, .int .i64 t.a, .int .i64 t.b, .int .i64 t.c, .int .i64 t.d]) := hf (4, 70) (by decide)
        have e5 : f 5 = (.agg #[.int .i64 t.k, .int .i64 t.a, .int .i64 t.b, .int .i64 t.c, .int .i64 t.d]) := hf (5, 71) (by decide)
        have OW := hf (6, 72) (by decide)
        simp only [List.foldl_cons, List.foldl_nil, List.drop_succ_cons, List.drop_zero, e0, e2, e3, e4, e5]
        clear e0 e2 e3 e4 e5 hf
        go_simp
        obtain ⟨Ah, ch, e6, oh⟩ := OW
        rw [e6]
        clear e6
        have Hd := Lib.hid oh
        have Gd := Lib.hid (own_below Ga.out hB)
        have Wd := Lib.hid (own_below Wa.out hB)
        have Bd := Lib.hid (bthen Ba.out hB)
        clear oh hB qa ua va Ga Wa Ba
        go_wp2_with fail
        refine Calls.mono (eqBn Ah Aw L ch cw ds _ (RB.of_own Hd.out) (RB.of_own Wd.out) HE.out (by omega)) ?_
        rintro e we ⟨rfl, be⟩
        have Ge := Lib.hid (own_below Gd.out be)
        have Be := Lib.hid (bthen Bd.out be)
        clear be
        go_wp2_with fail
        refine Calls.mono (heldBn Ag L cg 1 _ (RB.of_own Ge.out) (by omega) (by omega) (by omega)) ?_
        rintro e wf ⟨rfl, rfl⟩
        go_wp2
        go_ret
        exact ⟨rfl, Be.out⟩

theorem lawUpperBytes {w : World} (x : Uh) (A : Option Addr) (n c : Nat) (os : List UInt8) (D : Option Addr) (m d : Nat) (bs : List UInt8) (h : In w A n c os) (k : In w D m d bs) (s t : Ad) : Calls Try.prog 12 #[.agg #[.int .i64 x.kind, .int .i64 x.sport, .int .i64 x.dport, .int .i64 x.seq, .int .i64 x.ack, .int .i64 x.bits, .int .i64 x.window, .int .i64 x.urgent, .int .i64 x.ty, .int .i64 x.code, .int .i64 x.rest, .bool x.nosum, .slice A n c, .slice D m d], .agg #[.int .i64 s.k, .int .i64 s.a, .int .i64 s.b, .int .i64 s.c, .int .i64 s.d], .agg #[.int .i64 t.k, .int .i64 t.a, .int .i64 t.b, .int .i64 t.c, .int .i64 t.d]] w fun e w' => e = .returned (.bool true) ∧ Below w.heap.size w w' := by
  by_cases hb : n + m ≤ 1048576
  · exact lawUpperBytes_small s t x A D n c m d os bs h.rb h.len k.rb k.len hb
  · by_cases hc : n ≤ 1048576
    · exact lawUpperBytes_big2 s t x A D n c m d hc (by omega) (Nat.le_trans k.cap k.big)
    · exact lawUpperBytes_big1 s t x A D n c m d (by omega) (Nat.le_trans h.cap h.big)

namespace fnExactUpperBytes
open Go.ChangeShapes Go.WideShapes Go.ChangeAt Go.RowKit
open Go.ChangeMaps (open_string shut_string)
theorem own : ownKnob Try.prog.godebug = none := by kernel_rfl
theorem laidOut : laidOutB Try.prog = true := by kernel_rfl

set_option maxRecDepth 100000 in
theorem lifted (os : Os) (started : os.Started) (H : Type) (enc : TypeId × Value → H) :
    ReturnsInHanded {} Try.checked os 12 .any (Rows.fnExactUpperBytesSpec.pre6 enc Try.prog Try.f12 Rows.fnExactUpperBytesRow.domain false) (Rows.fnExactUpperBytesSpec.post enc Try.prog Try.f12 false true false false) := by
  refine returnsInHanded_of_change (C := Try.checked) own started (by kernel_rfl) Try.func12
    (ChangeSpec.witness6 (enc := enc) (C := Try.checked) false ⟨#[], #[.agg #[.int .i64 0, .int .i64 0, .int .i64 0, .int .i64 0, .int .i64 0, .int .i64 0, .int .i64 0, .int .i64 0, .int .i64 0, .int .i64 0, .int .i64 0, .bool false, .slice none 0 0, .slice none 0 0], .agg #[.int .i64 0, .int .i64 0, .int .i64 0, .int .i64 0, .int .i64 0], .agg #[.int .i64 0, .int .i64 0, .int .i64 0, .int .i64 0, .int .i64 0]], []⟩ 8 (by kernel_rfl) (by kernel_rfl) (by kernel_rfl) (by kernel_rfl)) ?_
  intro W base args ds gs before hval0 hW _ _
  have hval : ∀ (j : Nat) t v, Try.f12.params[j]? = some t → args[j]? = some v → Value.okWide Try.prog W .any base t v := hval0
  have hW' := hW
  obtain ⟨p, q, hA0, hV, rfl, _, _⟩ := hW
  have hA : DataW.TrodAll enc Try.prog W 0 (fun _ => true) true Try.f12.params.toList args.toList ds p := hA0
  rw [Try.params12] at hA hval
  obtain ⟨v0, vs0, d0, ds0, p0, q0, hargs, rfl, rfl, h0, r0⟩ := trodAll_cons hA
  obtain ⟨v1, vs1, d1, ds1, p1, q1, rfl, rfl, rfl, h1, r1⟩ := trodAll_cons r0
  obtain ⟨v2, vs2, d2, ds2, p2, q2, rfl, rfl, rfl, h2, r2⟩ := trodAll_cons r1
  obtain ⟨rfl, rfl, rfl⟩ := trodAll_nil r2
  obtain rfl : args = #[v0, v1, v2] := by cases args; simp_all
  obtain ⟨rfl, rfl⟩ := trodVars_none hV
  have k0 := h0
  have lt0 : ∀ x ∈ p0, x.block < W.heap.size := by obtain ⟨m, hm⟩ := k0; exact DataW.trod_lt m _ _ _ hm
  obtain ⟨a0, A0, n0, c0, b0, D0, m0, e0, s0, rfl, w0, u0⟩ := up_in (hval 0 52 v0 rfl rfl) h0
  have k1 := h1
  have lt1 : ∀ x ∈ p1, x.block < W.heap.size := by obtain ⟨m, hm⟩ := k1; exact DataW.trod_lt m _ _ _ hm
  obtain ⟨a1, rfl⟩ := addr_in (hval 1 57 v1 rfl rfl) h1
  have k2 := h2
  have lt2 : ∀ x ∈ p2, x.block < W.heap.size := by obtain ⟨m, hm⟩ := k2; exact DataW.trod_lt m _ _ _ hm
  obtain ⟨a2, rfl⟩ := addr_in (hval 2 57 v2 rfl rfl) h2
  clear hA0 hval0
  refine (lawUpperBytes a0 A0 n0 c0 b0 D0 m0 e0 s0 w0 u0 a1 a2).mono fun e W' ⟨he, bel⟩ => ?_
  subst he
  exact ⟨_, rfl, _, _, _, [], _, [], hW', trodAll_mk1 (shut_bool Try.underlying4 _), (trodAll_cons_mk (Below.trod laidOut (by kernel_rfl) (of_decide_eq_true (by kernel_rfl)) k0 bel lt0) (trodAll_cons_mk (Below.trod laidOut (by kernel_rfl) (of_decide_eq_true (by kernel_rfl)) k1 bel lt1) (trodAll_cons_mk (Below.trod laidOut (by kernel_rfl) (of_decide_eq_true (by kernel_rfl)) k2 bel lt2) trodAll_mk0))), rfl, bel.frame _, fun h => by cases h⟩

theorem proved : Rows.FnExactUpperBytesSaid :=
  OpenClaim.holds_of_wide 12 Try.f12 rfl rfl rfl rfl rfl rfl rfl ⟨rfl, rfl, rfl, rfl, rfl⟩ rfl rfl rfl rfl rfl (by kernel_rfl) Try.func12 (by kernel_rfl)
    (of_decide_eq_true (by kernel_rfl)) (by unfold Func.isWrapper; rw [if_neg (of_decide_eq_false (by kernel_rfl))]; exact ⟨rfl, rfl⟩)
    (fun os started H enc _ => lifted os started H enc)
#print axioms proved
end fnExactUpperBytes
end Go.Proofs.Ytkmijefheejcjaa
