/-
  The bytes of a valid upper layer, in the program and in the model.
-/
import Derived.Test.YtkmijefheejcjaaKp26
import Derived.Test.YtkmijefheejcjaaKp29
import Derived.Test.YtkmijefheejcjaaKp15
namespace Go.Proofs.Ytkmijefheejcjaa
set_option maxRecDepth 100000
open Go.RowKit

theorem encI (x : Uh) (k : Int) (sum : Int) (A D : Option Addr) (n c m d : Nat) (os bs : List UInt8) (w : World) (hr : RB w w.heap.size A os) (hl : os.length = n) (hs : RB w w.heap.size D bs) (hm : bs.length = m) (h : x.ok k n m = true) : Calls Try.prog 75 #[.agg #[.int .i64 x.kind, .int .i64 x.sport, .int .i64 x.dport, .int .i64 x.seq, .int .i64 x.ack, .int .i64 x.bits, .int .i64 x.window, .int .i64 x.urgent, .int .i64 x.ty, .int .i64 x.code, .int .i64 x.rest, .bool x.nosum, .slice A n c, .slice D m d], .int .i64 sum] w (EncOut (x.enc os bs sum) w) := by
  obtain ⟨h1, h2, h3, _⟩ := Uh.ok_room h
  have hk := Uh.ok_kind h
  have ht := Uh.ok_tcp h
  have hi := Uh.ok_icmp h
  obtain ⟨kind, sport, dport, seq, ack, bits, window, urgent, ty, code, rest, nosum⟩ := x
  simp only at hk ht hi
  rcases hk with rfl | rfl | rfl | rfl
  · exact upB0 sport dport seq ack bits window urgent ty code rest nosum A D n c m d os bs sum w hr hl hs hm h1 h3
  · exact upB1 sport dport seq ack bits window urgent ty code rest nosum A D n c m d os bs sum w hr hl hs hm h1 h3 (ht rfl) h2
  · have e : Uh.enc (Uh.mk 2 sport dport seq ack bits window urgent ty code rest nosum) os bs sum = udpH (Uh.mk 2 sport dport seq ack bits window urgent ty code rest nosum) m sum ++ bs := by rw [← hm]; rfl
    rw [e]
    exact upB2 sport dport seq ack bits window urgent ty code rest nosum A D n c m d os bs sum w hr hl hs hm h1 h3
  · exact upB3 sport dport seq ack bits window urgent ty code rest nosum A D n c m d os bs sum w hr hl hs hm h1 h3 (hi rfl).1 (hi rfl).2
theorem encS (x : Uh) (k : Int) (sum : Int) (A D : Option Addr) (n c m d : Nat) (os bs : List UInt8) (w : World) (hr : RB w w.heap.size A os) (hl : os.length = n) (hs : RB w w.heap.size D bs) (hm : bs.length = m) (h : x.ok k n m = true) : Calls Try.prog 79 #[.agg #[.int .i64 x.kind, .int .i64 x.sport, .int .i64 x.dport, .int .i64 x.seq, .int .i64 x.ack, .int .i64 x.bits, .int .i64 x.window, .int .i64 x.urgent, .int .i64 x.ty, .int .i64 x.code, .int .i64 x.rest, .bool x.nosum, .slice A n c, .slice D m d], .int .i64 sum] w (EncOut (x.enc os bs sum) w) := by
  obtain ⟨h1, h2, h3, _⟩ := Uh.ok_room h
  have hk := Uh.ok_kind h
  have ht := Uh.ok_tcp h
  have hi := Uh.ok_icmp h
  obtain ⟨kind, sport, dport, seq, ack, bits, window, urgent, ty, code, rest, nosum⟩ := x
  simp only at hk ht hi
  rcases hk with rfl | rfl | rfl | rfl
  · exact l07B0 sport dport seq ack bits window urgent ty code rest nosum A D n c m d os bs sum w hr hl hs hm h1 h3
  · exact l07B1 sport dport seq ack bits window urgent ty code rest nosum A D n c m d os bs sum w hr hl hs hm h1 h3 (ht rfl) h2
  · have e : Uh.enc (Uh.mk 2 sport dport seq ack bits window urgent ty code rest nosum) os bs sum = udpH (Uh.mk 2 sport dport seq ack bits window urgent ty code rest nosum) m sum ++ bs := by rw [← hm]; rfl
    rw [e]
    exact l07B2 sport dport seq ack bits window urgent ty code rest nosum A D n c m d os bs sum w hr hl hs hm h1 h3
  · exact l07B3 sport dport seq ack bits window urgent ty code rest nosum A D n c m d os bs sum w hr hl hs hm h1 h3 (hi rfl).1 (hi rfl).2
theorem okIB (x : Uh) (A D : Option Addr) (n c m d : Nat) (k : Int) (b : Bool) (h : x.ok k n m = b) (hn : n ≤ 1048576) (hm : m ≤ 1048576) (w : World) : Calls Try.prog 42 #[.agg #[.int .i64 x.kind, .int .i64 x.sport, .int .i64 x.dport, .int .i64 x.seq, .int .i64 x.ack, .int .i64 x.bits, .int .i64 x.window, .int .i64 x.urgent, .int .i64 x.ty, .int .i64 x.code, .int .i64 x.rest, .bool x.nosum, .slice A n c, .slice D m d], .int .i64 k] w fun e w' => e = .returned (.bool b) ∧ Below w.heap.size w w' := (implUpOk x A D n c m d k w hn hm).mono fun _ _ ⟨he, hb⟩ => ⟨he.trans (ret_bool h), hb⟩
theorem okSB (x : Uh) (A D : Option Addr) (n c m d : Nat) (k : Int) (b : Bool) (h : x.ok k n m = b) (hn : n ≤ 1048576) (hm : m ≤ 1048576) (w : World) : Calls Try.prog 40 #[.agg #[.int .i64 x.kind, .int .i64 x.sport, .int .i64 x.dport, .int .i64 x.seq, .int .i64 x.ack, .int .i64 x.bits, .int .i64 x.window, .int .i64 x.urgent, .int .i64 x.ty, .int .i64 x.code, .int .i64 x.rest, .bool x.nosum, .slice A n c, .slice D m d], .int .i64 k] w fun e w' => e = .returned (.bool b) ∧ Below w.heap.size w w' := (specUpOk x A D n c m d k w hn hm).mono fun _ _ ⟨he, hb⟩ => ⟨he.trans (ret_bool h), hb⟩
section
variable {o : Oper} {a : Act} {w : World} {K : Act → World → Prop} {Q : Exit → Act → World → Prop}
theorem u_upSizeI (x : Operand) (x0 : Value) (ts : Array TypeId) (ho : o.op = .call { callee := .value (.func 48), args := #[x], argTypes := ts }) (h0 : a.eval x = x0)
    (h : Calls Try.prog 48 #[x0] w fun e w' => ∃ v, e = .returned v ∧ K (a.put o.dst v) w') : o.wp Try.prog a w K Q := by
  unfold Oper.wp execOp
  simp only [ho, resolve, List.map_toArray, List.map_cons, List.map_nil, h0, show ∀ f, a.eval (.func f) = .func (.func f) #[] #[] from fun _ => rfl]
  go_simp
  exact h.mono fun e w' ⟨u, he, hk⟩ => by subst he; exact hk
theorem u_upSizeS (x : Operand) (x0 : Value) (ts : Array TypeId) (ho : o.op = .call { callee := .value (.func 47), args := #[x], argTypes := ts }) (h0 : a.eval x = x0)
    (h : Calls Try.prog 47 #[x0] w fun e w' => ∃ v, e = .returned v ∧ K (a.put o.dst v) w') : o.wp Try.prog a w K Q := by
  unfold Oper.wp execOp
  simp only [ho, resolve, List.map_toArray, List.map_cons, List.map_nil, h0, show ∀ f, a.eval (.func f) = .func (.func f) #[] #[] from fun _ => rfl]
  go_simp
  exact h.mono fun e w' ⟨u, he, hk⟩ => by subst he; exact hk
theorem u_psI4 (x y z u : Operand) (x0 x1 x2 x3 : Value) (ts : Array TypeId) (ho : o.op = .call { callee := .value (.func 46), args := #[x, y, z, u], argTypes := ts }) (h0 : a.eval x = x0) (h1 : a.eval y = x1) (h2 : a.eval z = x2) (h3 : a.eval u = x3)
    (h : Calls Try.prog 46 #[x0, x1, x2, x3] w fun e w' => ∃ v, e = .returned v ∧ K (a.put o.dst v) w') : o.wp Try.prog a w K Q := by
  unfold Oper.wp execOp
  simp only [ho, resolve, List.map_toArray, List.map_cons, List.map_nil, h0, h1, h2, h3, show ∀ f, a.eval (.func f) = .func (.func f) #[] #[] from fun _ => rfl]
  go_simp
  exact h.mono fun e w' ⟨u, he, hk⟩ => by subst he; exact hk
theorem u_psS4 (x y z u : Operand) (x0 x1 x2 x3 : Value) (ts : Array TypeId) (ho : o.op = .call { callee := .value (.func 44), args := #[x, y, z, u], argTypes := ts }) (h0 : a.eval x = x0) (h1 : a.eval y = x1) (h2 : a.eval z = x2) (h3 : a.eval u = x3)
    (h : Calls Try.prog 44 #[x0, x1, x2, x3] w fun e w' => ∃ v, e = .returned v ∧ K (a.put o.dst v) w') : o.wp Try.prog a w K Q := by
  unfold Oper.wp execOp
  simp only [ho, resolve, List.map_toArray, List.map_cons, List.map_nil, h0, h1, h2, h3, show ∀ f, a.eval (.func f) = .func (.func f) #[] #[] from fun _ => rfl]
  go_simp
  exact h.mono fun e w' ⟨u, he, hk⟩ => by subst he; exact hk
theorem u_pseudoOf (x y z : Operand) (x0 x1 x2 : Value) (ts : Array TypeId) (ho : o.op = .call { callee := .value (.func 87), args := #[x, y, z], argTypes := ts }) (h0 : a.eval x = x0) (h1 : a.eval y = x1) (h2 : a.eval z = x2)
    (h : Calls Try.prog 87 #[x0, x1, x2] w fun e w' => ∃ v, e = .returned v ∧ K (a.put o.dst v) w') : o.wp Try.prog a w K Q := by
  unfold Oper.wp execOp
  simp only [ho, resolve, List.map_toArray, List.map_cons, List.map_nil, h0, h1, h2, show ∀ f, a.eval (.func f) = .func (.func f) #[] #[] from fun _ => rfl]
  go_simp
  exact h.mono fun e w' ⟨u, he, hk⟩ => by subst he; exact hk
theorem u_upBytesI (x y : Operand) (x0 x1 : Value) (ts : Array TypeId) (ho : o.op = .call { callee := .value (.func 75), args := #[x, y], argTypes := ts }) (h0 : a.eval x = x0) (h1 : a.eval y = x1)
    (h : Calls Try.prog 75 #[x0, x1] w fun e w' => ∃ v, e = .returned v ∧ K (a.put o.dst v) w') : o.wp Try.prog a w K Q := by
  unfold Oper.wp execOp
  simp only [ho, resolve, List.map_toArray, List.map_cons, List.map_nil, h0, h1, show ∀ f, a.eval (.func f) = .func (.func f) #[] #[] from fun _ => rfl]
  go_simp
  exact h.mono fun e w' ⟨u, he, hk⟩ => by subst he; exact hk
theorem u_onesI (x : Operand) (x0 : Value) (ts : Array TypeId) (ho : o.op = .call { callee := .value (.func 88), args := #[x], argTypes := ts }) (h0 : a.eval x = x0)
    (h : Calls Try.prog 88 #[x0] w fun e w' => ∃ v, e = .returned v ∧ K (a.put o.dst v) w') : o.wp Try.prog a w K Q := by
  unfold Oper.wp execOp
  simp only [ho, resolve, List.map_toArray, List.map_cons, List.map_nil, h0, show ∀ f, a.eval (.func f) = .func (.func f) #[] #[] from fun _ => rfl]
  go_simp
  exact h.mono fun e w' ⟨u, he, hk⟩ => by subst he; exact hk
end
end Go.Proofs.Ytkmijefheejcjaa
