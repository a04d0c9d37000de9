/-
  UpperOk in the model. The bytes of a valid upper layer, in the program and in the model. The part of the checksum that the addresses have, in the program.
-/
import Derived.Test.YthogonpjkngpjaaRc22
import Derived.Test.YthogonpjkngpjaaRc23
import Derived.Test.YthogonpjkngpjaaRc24
import Derived.Test.YthogonpjkngpjaaRc25
import Derived.Test.YthogonpjkngpjaaRc26
import Derived.Test.YthogonpjkngpjaaRc27
import Derived.Test.YthogonpjkngpjaaRc11
import Derived.Test.YthogonpjkngpjaaRc14
import Derived.Test.YthogonpjkngpjaaRc15
import Derived.Test.YthogonpjkngpjaaRc21
namespace Go.Proofs.Ythogonpjkngpjaa
set_option maxRecDepth 100000
open Go.RowKit
set_option maxHeartbeats 1000000 in
theorem upOkS_no (x : Uh) (A D : Option Addr) (n c m d : Nat) (k : Int) (w : World) (h4 : ¬ k = 4) (h6 : ¬ k = 6) : Calls Try.prog 59 #[.agg #[.int .i64 x.kind, .int .i64 x.sport, .int .i64 x.dport, .int .i64 x.seq, .int .i64 x.ack, .int .i64 x.bits, .int .i64 x.window, .int .i64 x.urgent, .int .i64 x.ty, .int .i64 x.code, .int .i64 x.rest, .bool x.nosum, .slice A n c, .slice D m d], .int .i64 k] w fun e w' => e = .returned (.bool (x.ok k n m)) ∧ Below w.heap.size w w' := by
  have HZ := Lib.hid (show x.ok k n m = false by simp [Uh.ok, kindB, h4, h6])
  have f4 : (k != 4) = true := by simp [h4]
  have f6 : (k != 6) = true := by simp [h6]
  go_enter Try.func59, Try.ntmps59
  go_wp2
  go_ret
  exact ⟨ret_bool HZ.out.symm, Joins.below_alloc1 w _⟩
theorem specUpOk (x : Uh) (A D : Option Addr) (n c m d : Nat) (k : Int) (w : World) (hn : n ≤ 1048576) (hm : m ≤ 1048576) : Calls Try.prog 59 #[.agg #[.int .i64 x.kind, .int .i64 x.sport, .int .i64 x.dport, .int .i64 x.seq, .int .i64 x.ack, .int .i64 x.bits, .int .i64 x.window, .int .i64 x.urgent, .int .i64 x.ty, .int .i64 x.code, .int .i64 x.rest, .bool x.nosum, .slice A n c, .slice D m d], .int .i64 k] w fun e w' => e = .returned (.bool (x.ok k n m)) ∧ Below w.heap.size w w' := by
  obtain ⟨kind, sport, dport, seq, ack, bits, window, urgent, ty, code, rest, nosum⟩ := x
  have hk : kind = 0 ∨ kind = 1 ∨ kind = 2 ∨ kind = 3 ∨ (¬ kind = 0 ∧ ¬ kind = 1 ∧ ¬ kind = 2 ∧ ¬ kind = 3) := by omega
  by_cases h4 : k = 4
  · subst h4
    rcases hk with rfl | rfl | rfl | rfl | ⟨k0, k1, k2, k3⟩
    · exact upOkT0 sport dport seq ack bits window urgent ty code rest nosum A D 4 (by simp) n c m d w hn hm
    · exact upOkT1 sport dport seq ack bits window urgent ty code rest nosum A D 4 (by simp) n c m d w hn hm
    · exact upOkS2_4 sport dport seq ack bits window urgent ty code rest nosum A D n c m d w hn hm
    · exact upOkT3 sport dport seq ack bits window urgent ty code rest nosum A D 4 (by simp) n c m d w hn hm
    · exact upOkT4 kind sport dport seq ack bits window urgent ty code rest nosum A D 4 (by simp) n c m d w hn hm k0 k1 k2 k3
  · by_cases h6 : k = 6
    · subst h6
      rcases hk with rfl | rfl | rfl | rfl | ⟨k0, k1, k2, k3⟩
      · exact upOkT0 sport dport seq ack bits window urgent ty code rest nosum A D 6 (by simp) n c m d w hn hm
      · exact upOkT1 sport dport seq ack bits window urgent ty code rest nosum A D 6 (by simp) n c m d w hn hm
      · exact upOkS2_6 sport dport seq ack bits window urgent ty code rest nosum A D n c m d w hn hm
      · exact upOkT3 sport dport seq ack bits window urgent ty code rest nosum A D 6 (by simp) n c m d w hn hm
      · exact upOkT4 kind sport dport seq ack bits window urgent ty code rest nosum A D 6 (by simp) n c m d w hn hm k0 k1 k2 k3
    · exact upOkS_no _ A D n c m d k w h4 h6
end Go.Proofs.Ythogonpjkngpjaa

namespace Go.Proofs.Ythogonpjkngpjaa
set_option maxRecDepth 100000
open Go.RowKit
theorem encI (x : Uh) (k : Int) (sum : Int) (A D : Option Addr) (n c m d : Nat) (os bs : List UInt8) (w : World) (hr : RB w w.heap.size A os) (hl : os.length = n) (hs : RB w w.heap.size D bs) (hm : bs.length = m) (h : x.ok k n m = true) : Calls Try.prog 70 #[.agg #[.int .i64 x.kind, .int .i64 x.sport, .int .i64 x.dport, .int .i64 x.seq, .int .i64 x.ack, .int .i64 x.bits, .int .i64 x.window, .int .i64 x.urgent, .int .i64 x.ty, .int .i64 x.code, .int .i64 x.rest, .bool x.nosum, .slice A n c, .slice D m d], .int .i64 sum] w (EncOut (x.enc os bs sum) w) := by
  obtain ⟨h1, h2, h3, _⟩ := Uh.ok_room h
  have hk := Uh.ok_kind h
  have ht := Uh.ok_tcp h
  have hi := Uh.ok_icmp h
  obtain ⟨kind, sport, dport, seq, ack, bits, window, urgent, ty, code, rest, nosum⟩ := x
  try simp only at hk ht hi
  rcases hk with rfl | rfl | rfl | rfl
  · exact upB0 sport dport seq ack bits window urgent ty code rest nosum A D n c m d os bs sum w hr hl hs hm h1 h3
  · exact upB1 sport dport seq ack bits window urgent ty code rest nosum A D n c m d os bs sum w hr hl hs hm h1 h3 (ht rfl) h2
  · have e : Uh.enc (Uh.mk 2 sport dport seq ack bits window urgent ty code rest nosum) os bs sum = udpH (Uh.mk 2 sport dport seq ack bits window urgent ty code rest nosum) m sum ++ bs := by rw [← hm]; rfl
    rw [e]
    exact upB2 sport dport seq ack bits window urgent ty code rest nosum A D n c m d os bs sum w hr hl hs hm h1 h3
  · exact upB3 sport dport seq ack bits window urgent ty code rest nosum A D n c m d os bs sum w hr hl hs hm h1 h3 (hi rfl).1 (hi rfl).2
theorem encS (x : Uh) (k : Int) (sum : Int) (A D : Option Addr) (n c m d : Nat) (os bs : List UInt8) (w : World) (hr : RB w w.heap.size A os) (hl : os.length = n) (hs : RB w w.heap.size D bs) (hm : bs.length = m) (h : x.ok k n m = true) : Calls Try.prog 64 #[.agg #[.int .i64 x.kind, .int .i64 x.sport, .int .i64 x.dport, .int .i64 x.seq, .int .i64 x.ack, .int .i64 x.bits, .int .i64 x.window, .int .i64 x.urgent, .int .i64 x.ty, .int .i64 x.code, .int .i64 x.rest, .bool x.nosum, .slice A n c, .slice D m d], .int .i64 sum] w (EncOut (x.enc os bs sum) w) := by
  obtain ⟨h1, h2, h3, _⟩ := Uh.ok_room h
  have hk := Uh.ok_kind h
  have ht := Uh.ok_tcp h
  have hi := Uh.ok_icmp h
  obtain ⟨kind, sport, dport, seq, ack, bits, window, urgent, ty, code, rest, nosum⟩ := x
  try simp only at hk ht hi
  rcases hk with rfl | rfl | rfl | rfl
  · exact l07B0 sport dport seq ack bits window urgent ty code rest nosum A D n c m d os bs sum w hr hl hs hm h1 h3
  · exact l07B1 sport dport seq ack bits window urgent ty code rest nosum A D n c m d os bs sum w hr hl hs hm h1 h3 (ht rfl) h2
  · have e : Uh.enc (Uh.mk 2 sport dport seq ack bits window urgent ty code rest nosum) os bs sum = udpH (Uh.mk 2 sport dport seq ack bits window urgent ty code rest nosum) m sum ++ bs := by rw [← hm]; rfl
    rw [e]
    exact l07B2 sport dport seq ack bits window urgent ty code rest nosum A D n c m d os bs sum w hr hl hs hm h1 h3
  · exact l07B3 sport dport seq ack bits window urgent ty code rest nosum A D n c m d os bs sum w hr hl hs hm h1 h3 (hi rfl).1 (hi rfl).2
theorem okIB (x : Uh) (A D : Option Addr) (n c m d : Nat) (k : Int) (b : Bool) (h : x.ok k n m = b) (hn : n ≤ 1048576) (hm : m ≤ 1048576) (w : World) : Calls Try.prog 65 #[.agg #[.int .i64 x.kind, .int .i64 x.sport, .int .i64 x.dport, .int .i64 x.seq, .int .i64 x.ack, .int .i64 x.bits, .int .i64 x.window, .int .i64 x.urgent, .int .i64 x.ty, .int .i64 x.code, .int .i64 x.rest, .bool x.nosum, .slice A n c, .slice D m d], .int .i64 k] w fun e w' => e = .returned (.bool b) ∧ Below w.heap.size w w' := (implUpOk x A D n c m d k w hn hm).mono fun _ _ ⟨he, hb⟩ => ⟨he.trans (ret_bool h), hb⟩
theorem okSB (x : Uh) (A D : Option Addr) (n c m d : Nat) (k : Int) (b : Bool) (h : x.ok k n m = b) (hn : n ≤ 1048576) (hm : m ≤ 1048576) (w : World) : Calls Try.prog 59 #[.agg #[.int .i64 x.kind, .int .i64 x.sport, .int .i64 x.dport, .int .i64 x.seq, .int .i64 x.ack, .int .i64 x.bits, .int .i64 x.window, .int .i64 x.urgent, .int .i64 x.ty, .int .i64 x.code, .int .i64 x.rest, .bool x.nosum, .slice A n c, .slice D m d], .int .i64 k] w fun e w' => e = .returned (.bool b) ∧ Below w.heap.size w w' := (specUpOk x A D n c m d k w hn hm).mono fun _ _ ⟨he, hb⟩ => ⟨he.trans (ret_bool h), hb⟩
section
variable {o : Oper} {a : Act} {w : World} {K : Act → World → Prop} {Q : Exit → Act → World → Prop}
theorem u_upSizeI (x : Operand) (x0 : Value) (ts : Array TypeId) (ho : o.op = .call { callee := .value (.func 102), args := #[x], argTypes := ts }) (h0 : a.eval x = x0)
    (h : Calls Try.prog 102 #[x0] w fun e w' => ∃ v, e = .returned v ∧ K (a.put o.dst v) w') : o.wp Try.prog a w K Q := by
  unfold Oper.wp execOp
  simp only [ho, resolve, List.map_toArray, List.map_cons, List.map_nil, h0, show ∀ f, a.eval (.func f) = .func (.func f) #[] #[] from fun _ => rfl]
  go_simp
  exact h.mono fun e w' ⟨u, he, hk⟩ => by subst he; exact hk
theorem u_upSizeS (x : Operand) (x0 : Value) (ts : Array TypeId) (ho : o.op = .call { callee := .value (.func 61), args := #[x], argTypes := ts }) (h0 : a.eval x = x0)
    (h : Calls Try.prog 61 #[x0] w fun e w' => ∃ v, e = .returned v ∧ K (a.put o.dst v) w') : o.wp Try.prog a w K Q := by
  unfold Oper.wp execOp
  simp only [ho, resolve, List.map_toArray, List.map_cons, List.map_nil, h0, show ∀ f, a.eval (.func f) = .func (.func f) #[] #[] from fun _ => rfl]
  go_simp
  exact h.mono fun e w' ⟨u, he, hk⟩ => by subst he; exact hk
theorem u_psI4 (x y z u : Operand) (x0 x1 x2 x3 : Value) (ts : Array TypeId) (ho : o.op = .call { callee := .value (.func 103), args := #[x, y, z, u], argTypes := ts }) (h0 : a.eval x = x0) (h1 : a.eval y = x1) (h2 : a.eval z = x2) (h3 : a.eval u = x3)
    (h : Calls Try.prog 103 #[x0, x1, x2, x3] w fun e w' => ∃ v, e = .returned v ∧ K (a.put o.dst v) w') : o.wp Try.prog a w K Q := by
  unfold Oper.wp execOp
  simp only [ho, resolve, List.map_toArray, List.map_cons, List.map_nil, h0, h1, h2, h3, show ∀ f, a.eval (.func f) = .func (.func f) #[] #[] from fun _ => rfl]
  go_simp
  exact h.mono fun e w' ⟨u, he, hk⟩ => by subst he; exact hk
theorem u_psS4 (x y z u : Operand) (x0 x1 x2 x3 : Value) (ts : Array TypeId) (ho : o.op = .call { callee := .value (.func 60), args := #[x, y, z, u], argTypes := ts }) (h0 : a.eval x = x0) (h1 : a.eval y = x1) (h2 : a.eval z = x2) (h3 : a.eval u = x3)
    (h : Calls Try.prog 60 #[x0, x1, x2, x3] w fun e w' => ∃ v, e = .returned v ∧ K (a.put o.dst v) w') : o.wp Try.prog a w K Q := by
  unfold Oper.wp execOp
  simp only [ho, resolve, List.map_toArray, List.map_cons, List.map_nil, h0, h1, h2, h3, show ∀ f, a.eval (.func f) = .func (.func f) #[] #[] from fun _ => rfl]
  go_simp
  exact h.mono fun e w' ⟨u, he, hk⟩ => by subst he; exact hk
theorem u_pseudoOf (x y z : Operand) (x0 x1 x2 : Value) (ts : Array TypeId) (ho : o.op = .call { callee := .value (.func 68), args := #[x, y, z], argTypes := ts }) (h0 : a.eval x = x0) (h1 : a.eval y = x1) (h2 : a.eval z = x2)
    (h : Calls Try.prog 68 #[x0, x1, x2] w fun e w' => ∃ v, e = .returned v ∧ K (a.put o.dst v) w') : o.wp Try.prog a w K Q := by
  unfold Oper.wp execOp
  simp only [ho, resolve, List.map_toArray, List.map_cons, List.map_nil, h0, h1, h2, show ∀ f, a.eval (.func f) = .func (.func f) #[] #[] from fun _ => rfl]
  go_simp
  exact h.mono fun e w' ⟨u, he, hk⟩ => by subst he; exact hk
theorem u_upBytesI (x y : Operand) (x0 x1 : Value) (ts : Array TypeId) (ho : o.op = .call { callee := .value (.func 70), args := #[x, y], argTypes := ts }) (h0 : a.eval x = x0) (h1 : a.eval y = x1)
    (h : Calls Try.prog 70 #[x0, x1] w fun e w' => ∃ v, e = .returned v ∧ K (a.put o.dst v) w') : o.wp Try.prog a w K Q := by
  unfold Oper.wp execOp
  simp only [ho, resolve, List.map_toArray, List.map_cons, List.map_nil, h0, h1, show ∀ f, a.eval (.func f) = .func (.func f) #[] #[] from fun _ => rfl]
  go_simp
  exact h.mono fun e w' ⟨u, he, hk⟩ => by subst he; exact hk
theorem u_onesI (x : Operand) (x0 : Value) (ts : Array TypeId) (ho : o.op = .call { callee := .value (.func 69), args := #[x], argTypes := ts }) (h0 : a.eval x = x0)
    (h : Calls Try.prog 69 #[x0] w fun e w' => ∃ v, e = .returned v ∧ K (a.put o.dst v) w') : o.wp Try.prog a w K Q := by
  unfold Oper.wp execOp
  simp only [ho, resolve, List.map_toArray, List.map_cons, List.map_nil, h0, show ∀ f, a.eval (.func f) = .func (.func f) #[] #[] from fun _ => rfl]
  go_simp
  exact h.mono fun e w' ⟨u, he, hk⟩ => by subst he; exact hk
end
end Go.Proofs.Ythogonpjkngpjaa

namespace Go.Proofs.Ythogonpjkngpjaa
set_option maxRecDepth 100000
open Go.RowKit
set_option maxHeartbeats 2000000 in
theorem pseudo1 (sport dport seq ack bits window urgent ty code rest : Int) (nosum : Bool) (s : Ad) (t : Ad) (A D : Option Addr) (n c m d : Nat) (w : World) (hn : n ≤ 40) (hm : m ≤ 1500) : Calls Try.prog 68 #[.agg #[.int .i64 1, .int .i64 sport, .int .i64 dport, .int .i64 seq, .int .i64 ack, .int .i64 bits, .int .i64 window, .int .i64 urgent, .int .i64 ty, .int .i64 code, .int .i64 rest, .bool nosum, .slice A n c, .slice D m d], .agg #[.int .i64 s.k, .int .i64 s.a, .int .i64 s.b, .int .i64 s.c, .int .i64 s.d], .agg #[.int .i64 t.k, .int .i64 t.a, .int .i64 t.b, .int .i64 t.c, .int .i64 t.d]] w fun e w' => e = .returned (.int .i64 (psSum s t 6 (20 + (n : Int) + m))) ∧ Below w.heap.size w w' := by
  have q0 : Hid ((((w.alloc (.cells #[.int .i64 1, .int .i64 sport, .int .i64 dport, .int .i64 seq, .int .i64 ack, .int .i64 bits, .int .i64 window, .int .i64 urgent, .int .i64 ty, .int .i64 code, .int .i64 rest, .bool nosum, .slice A n c, .slice D m d] 36)).alloc (.cells #[.int .i64 s.k, .int .i64 s.a, .int .i64 s.b, .int .i64 s.c, .int .i64 s.d] 27)).alloc (.cells #[.int .i64 t.k, .int .i64 t.a, .int .i64 t.b, .int .i64 t.c, .int .i64 t.d] 27)).heap[w.heap.size]? = some (.cells #[.int .i64 1, .int .i64 sport, .int .i64 dport, .int .i64 seq, .int .i64 ack, .int .i64 bits, .int .i64 window, .int .i64 urgent, .int .i64 ty, .int .i64 code, .int .i64 rest, .bool nosum, .slice A n c, .slice D m d] 36)) := Lib.hid (by repeat (first | exact K.newAt (by first | rfl | (simp; done)) | refine K.oldAt (by first | (simp; done) | (simp; omega)) ?_))
  have q1 : Hid ((((w.alloc (.cells #[.int .i64 1, .int .i64 sport, .int .i64 dport, .int .i64 seq, .int .i64 ack, .int .i64 bits, .int .i64 window, .int .i64 urgent, .int .i64 ty, .int .i64 code, .int .i64 rest, .bool nosum, .slice A n c, .slice D m d] 36)).alloc (.cells #[.int .i64 s.k, .int .i64 s.a, .int .i64 s.b, .int .i64 s.c, .int .i64 s.d] 27)).alloc (.cells #[.int .i64 t.k, .int .i64 t.a, .int .i64 t.b, .int .i64 t.c, .int .i64 t.d] 27)).heap[w.heap.size + 1]? = some (.cells #[.int .i64 s.k, .int .i64 s.a, .int .i64 s.b, .int .i64 s.c, .int .i64 s.d] 27)) := Lib.hid (by repeat (first | exact K.newAt (by first | rfl | (simp; done)) | refine K.oldAt (by first | (simp; done) | (simp; omega)) ?_))
  have q2 : Hid ((((w.alloc (.cells #[.int .i64 1, .int .i64 sport, .int .i64 dport, .int .i64 seq, .int .i64 ack, .int .i64 bits, .int .i64 window, .int .i64 urgent, .int .i64 ty, .int .i64 code, .int .i64 rest, .bool nosum, .slice A n c, .slice D m d] 36)).alloc (.cells #[.int .i64 s.k, .int .i64 s.a, .int .i64 s.b, .int .i64 s.c, .int .i64 s.d] 27)).alloc (.cells #[.int .i64 t.k, .int .i64 t.a, .int .i64 t.b, .int .i64 t.c, .int .i64 t.d] 27)).heap[w.heap.size + 1 + 1]? = some (.cells #[.int .i64 t.k, .int .i64 t.a, .int .i64 t.b, .int .i64 t.c, .int .i64 t.d] 27)) := Lib.hid (by repeat (first | exact K.newAt (by first | rfl | (simp; done)) | refine K.oldAt (by first | (simp; done) | (simp; omega)) ?_))
  (try simp only at q0 q1 q2)
  have HB : Hid (Below w.heap.size w (((w.alloc (.cells #[.int .i64 1, .int .i64 sport, .int .i64 dport, .int .i64 seq, .int .i64 ack, .int .i64 bits, .int .i64 window, .int .i64 urgent, .int .i64 ty, .int .i64 code, .int .i64 rest, .bool nosum, .slice A n c, .slice D m d] 36)).alloc (.cells #[.int .i64 s.k, .int .i64 s.a, .int .i64 s.b, .int .i64 s.c, .int .i64 s.d] 27)).alloc (.cells #[.int .i64 t.k, .int .i64 t.a, .int .i64 t.b, .int .i64 t.c, .int .i64 t.d] 27))) := Lib.hid (by go_grown)
  try simp only at HB
  go_enter Try.func68, Try.ntmps68
  go_wp2_with fail
  refine wp_region_owns (by kernel_rfl) 6 26 [(0, 20), (1, 21), (2, 22), (3, 23), (4, 24), (5, 25)] _ ([.val (.agg #[.int .i64 s.k, .int .i64 s.a, .int .i64 s.b, .int .i64 s.c, .int .i64 s.d]), .val (.agg #[.int .i64 t.k, .int .i64 t.a, .int .i64 t.b, .int .i64 t.c, .int .i64 t.d]), .val (.int .i64 6), .val (.agg #[.int .i64 1, .int .i64 sport, .int .i64 dport, .int .i64 seq, .int .i64 ack, .int .i64 bits, .int .i64 window, .int .i64 urgent, .int .i64 ty, .int .i64 code, .int .i64 rest, .bool nosum, .slice A n c, .slice D m d]), .val (.int .i64 (20 + (n : Int) + m)), .val (.int .i64 (psSum s t 6 (20 + (n : Int) + m)))]) (by kernel_rfl) (by kernel_rfl) rfl rfl ?_ ?_
  · intro j o hj ho a' v K' hx hnd hB hK
    match j, hj, ho with
    | 0, _, ho =>
      obtain rfl := Option.some.inj ho
      have h0 : a'.eval (.tmp 4) = .pointer (some ⟨w.heap.size + 1, 0, none⟩) := (hx 4 (by decide)).trans rfl
      exact wp_load_row 27 _ rfl (w.heap.size + 1) h0 _ _ (0, 0) _ (K.below hB q1.out) Try.underlying27 rfl info_addrP (hK _ _ rfl (Below.refl _ _))
    | 1, _, ho =>
      obtain rfl := Option.some.inj ho
      have h0 : a'.eval (.tmp 5) = .pointer (some ⟨w.heap.size + 2, 0, none⟩) := (hx 5 (by decide)).trans rfl
      exact wp_load_row 27 _ rfl (w.heap.size + 2) h0 _ _ (0, 0) _ (K.below hB q2.out) Try.underlying27 rfl info_addrP (hK _ _ rfl (Below.refl _ _))
    | 2, _, ho =>
      obtain rfl := Option.some.inj ho
      have h0 : a'.eval (.tmp 7) = .int .i64 6 := (hx 7 (by decide)).trans rfl
      exact u_move _ _ rfl h0 (hK _ _ rfl (Below.refl _ _))
    | 3, _, ho =>
      obtain rfl := Option.some.inj ho
      have h0 : a'.eval (.tmp 3) = .pointer (some ⟨w.heap.size, 0, none⟩) := (hx 3 (by decide)).trans rfl
      exact wp_load_row 36 _ rfl (w.heap.size) h0 _ _ (0, 0) _ (K.below hB q0.out) Try.underlying36 rfl info_up (hK _ _ rfl (Below.refl _ _))
    | 4, _, ho =>
      obtain rfl := Option.some.inj ho
      have h0 : a'.eval (.tmp 23) = .agg #[.int .i64 1, .int .i64 sport, .int .i64 dport, .int .i64 seq, .int .i64 ack, .int .i64 bits, .int .i64 window, .int .i64 urgent, .int .i64 ty, .int .i64 code, .int .i64 rest, .bool nosum, .slice A n c, .slice D m d] := (owns_of hnd 3 23 (by kernel_rfl) :)
      refine u_upSizeI _ _ _ rfl h0 (Calls.mono (implUpSize (Uh.mk 1 sport dport seq ack bits window urgent ty code rest nosum) A D n c m d v (by omega) (by omega)) ?_)
      rintro e' v' ⟨rfl, b6⟩
      exact ⟨_, rfl, hK _ _ rfl b6⟩
    | 5, _, ho =>
      obtain rfl := Option.some.inj ho
      have h0 : a'.eval (.tmp 20) = .agg #[.int .i64 s.k, .int .i64 s.a, .int .i64 s.b, .int .i64 s.c, .int .i64 s.d] := (owns_of hnd 0 20 (by kernel_rfl) :)
      have h1 : a'.eval (.tmp 21) = .agg #[.int .i64 t.k, .int .i64 t.a, .int .i64 t.b, .int .i64 t.c, .int .i64 t.d] := (owns_of hnd 1 21 (by kernel_rfl) :)
      have h2 : a'.eval (.tmp 22) = .int .i64 6 := (owns_of hnd 2 22 (by kernel_rfl) :)
      have h3 : a'.eval (.tmp 24) = .int .i64 (20 + (n : Int) + m) := (owns_of hnd 4 24 (by kernel_rfl) :)
      refine u_psI4 _ _ _ _ _ _ _ _ _ rfl h0 h1 h2 h3 (Calls.mono (psI s t 6 (20 + (n : Int) + m) v) ?_)
      rintro e' v' ⟨rfl, b6⟩
      exact ⟨_, rfl, hK _ _ rfl b6⟩
    | j + 6, hj, _ => omega
  · intro f v hf hB
    have e0 : f 0 = (.agg #[.int .i64 s.k, .int .i64 s.a, .int .i64 s.b, .int .i64 s.c, .int .i64 s.d]) := hf (0, 20) (by decide)
    have e1 : f 1 = (.agg #[.int .i64 t.k, .int .i64 t.a, .int .i64 t.b, .int .i64 t.c, .int .i64 t.d]) := hf (1, 21) (by decide)
    have e2 : f 2 = (.int .i64 6) := hf (2, 22) (by decide)
    have e3 : f 3 = (.agg #[.int .i64 1, .int .i64 sport, .int .i64 dport, .int .i64 seq, .int .i64 ack, .int .i64 bits, .int .i64 window, .int .i64 urgent, .int .i64 ty, .int .i64 code, .int .i64 rest, .bool nosum, .slice A n c, .slice D m d]) := hf (3, 23) (by decide)
    have e4 : f 4 = (.int .i64 (20 + (n : Int) + m)) := hf (4, 24) (by decide)
    have e5 : f 5 = (.int .i64 (psSum s t 6 (20 + (n : Int) + m))) := hf (5, 25) (by decide)
    simp only [List.foldl_cons, List.foldl_nil, List.drop_succ_cons, List.drop_zero, e0, e1, e2, e3, e4, e5]
    clear e0 e1 e2 e3 e4 e5 hf
    go_simp
    have B1 := Lib.hid (bthen HB.out hB)
    clear hB
    go_wp2
    go_ret
    exact ⟨rfl, B1.out⟩
set_option maxHeartbeats 2000000 in
theorem pseudo2 (sport dport seq ack bits window urgent ty code rest : Int) (nosum : Bool) (s : Ad) (t : Ad) (A D : Option Addr) (n c m d : Nat) (w : World) (hn : n ≤ 40) (hm : m ≤ 1500) : Calls Try.prog 68 #[.agg #[.int .i64 2, .int .i64 sport, .int .i64 dport, .int .i64 seq, .int .i64 ack, .int .i64 bits, .int .i64 window, .int .i64 urgent, .int .i64 ty, .int .i64 code, .int .i64 rest, .bool nosum, .slice A n c, .slice D m d], .agg #[.int .i64 s.k, .int .i64 s.a, .int .i64 s.b, .int .i64 s.c, .int .i64 s.d], .agg #[.int .i64 t.k, .int .i64 t.a, .int .i64 t.b, .int .i64 t.c, .int .i64 t.d]] w fun e w' => e = .returned (.int .i64 (psSum s t 17 (8 + (m : Int)))) ∧ Below w.heap.size w w' := by
  have q0 : Hid ((((w.alloc (.cells #[.int .i64 2, .int .i64 sport, .int .i64 dport, .int .i64 seq, .int .i64 ack, .int .i64 bits, .int .i64 window, .int .i64 urgent, .int .i64 ty, .int .i64 code, .int .i64 rest, .bool nosum, .slice A n c, .slice D m d] 36)).alloc (.cells #[.int .i64 s.k, .int .i64 s.a, .int .i64 s.b, .int .i64 s.c, .int .i64 s.d] 27)).alloc (.cells #[.int .i64 t.k, .int .i64 t.a, .int .i64 t.b, .int .i64 t.c, .int .i64 t.d] 27)).heap[w.heap.size]? = some (.cells #[.int .i64 2, .int .i64 sport, .int .i64 dport, .int .i64 seq, .int .i64 ack, .int .i64 bits, .int .i64 window, .int .i64 urgent, .int .i64 ty, .int .i64 code, .int .i64 rest, .bool nosum, .slice A n c, .slice D m d] 36)) := Lib.hid (by repeat (first | exact K.newAt (by first | rfl | (simp; done)) | refine K.oldAt (by first | (simp; done) | (simp; omega)) ?_))
  have q1 : Hid ((((w.alloc (.cells #[.int .i64 2, .int .i64 sport, .int .i64 dport, .int .i64 seq, .int .i64 ack, .int .i64 bits, .int .i64 window, .int .i64 urgent, .int .i64 ty, .int .i64 code, .int .i64 rest, .bool nosum, .slice A n c, .slice D m d] 36)).alloc (.cells #[.int .i64 s.k, .int .i64 s.a, .int .i64 s.b, .int .i64 s.c, .int .i64 s.d] 27)).alloc (.cells #[.int .i64 t.k, .int .i64 t.a, .int .i64 t.b, .int .i64 t.c, .int .i64 t.d] 27)).heap[w.heap.size + 1]? = some (.cells #[.int .i64 s.k, .int .i64 s.a, .int .i64 s.b, .int .i64 s.c, .int .i64 s.d] 27)) := Lib.hid (by repeat (first | exact K.newAt (by first | rfl | (simp; done)) | refine K.oldAt (by first | (simp; done) | (simp; omega)) ?_))
  have q2 : Hid ((((w.alloc (.cells #[.int .i64 2, .int .i64 sport, .int .i64 dport, .int .i64 seq, .int .i64 ack, .int .i64 bits, .int .i64 window, .int .i64 urgent, .int .i64 ty, .int .i64 code, .int .i64 rest, .bool nosum, .slice A n c, .slice D m d] 36)).alloc (.cells #[.int .i64 s.k, .int .i64 s.a, .int .i64 s.b, .int .i64 s.c, .int .i64 s.d] 27)).alloc (.cells #[.int .i64 t.k, .int .i64 t.a, .int .i64 t.b, .int .i64 t.c, .int .i64 t.d] 27)).heap[w.heap.size + 1 + 1]? = some (.cells #[.int .i64 t.k, .int .i64 t.a, .int .i64 t.b, .int .i64 t.c, .int .i64 t.d] 27)) := Lib.hid (by repeat (first | exact K.newAt (by first | rfl | (simp; done)) | refine K.oldAt (by first | (simp; done) | (simp; omega)) ?_))
  (try simp only at q0 q1 q2)
  have HB : Hid (Below w.heap.size w (((w.alloc (.cells #[.int .i64 2, .int .i64 sport, .int .i64 dport, .int .i64 seq, .int .i64 ack, .int .i64 bits, .int .i64 window, .int .i64 urgent, .int .i64 ty, .int .i64 code, .int .i64 rest, .bool nosum, .slice A n c, .slice D m d] 36)).alloc (.cells #[.int .i64 s.k, .int .i64 s.a, .int .i64 s.b, .int .i64 s.c, .int .i64 s.d] 27)).alloc (.cells #[.int .i64 t.k, .int .i64 t.a, .int .i64 t.b, .int .i64 t.c, .int .i64 t.d] 27))) := Lib.hid (by go_grown)
  try simp only at HB
  go_enter Try.func68, Try.ntmps68
  go_wp2_with fail
  refine wp_region_owns (by kernel_rfl) 6 26 [(0, 20), (1, 21), (2, 22), (3, 23), (4, 24), (5, 25)] _ ([.val (.agg #[.int .i64 s.k, .int .i64 s.a, .int .i64 s.b, .int .i64 s.c, .int .i64 s.d]), .val (.agg #[.int .i64 t.k, .int .i64 t.a, .int .i64 t.b, .int .i64 t.c, .int .i64 t.d]), .val (.int .i64 17), .val (.agg #[.int .i64 2, .int .i64 sport, .int .i64 dport, .int .i64 seq, .int .i64 ack, .int .i64 bits, .int .i64 window, .int .i64 urgent, .int .i64 ty, .int .i64 code, .int .i64 rest, .bool nosum, .slice A n c, .slice D m d]), .val (.int .i64 (8 + (m : Int))), .val (.int .i64 (psSum s t 17 (8 + (m : Int))))]) (by kernel_rfl) (by kernel_rfl) rfl rfl ?_ ?_
  · intro j o hj ho a' v K' hx hnd hB hK
    match j, hj, ho with
    | 0, _, ho =>
      obtain rfl := Option.some.inj ho
      have h0 : a'.eval (.tmp 4) = .pointer (some ⟨w.heap.size + 1, 0, none⟩) := (hx 4 (by decide)).trans rfl
      exact wp_load_row 27 _ rfl (w.heap.size + 1) h0 _ _ (0, 0) _ (K.below hB q1.out) Try.underlying27 rfl info_addrP (hK _ _ rfl (Below.refl _ _))
    | 1, _, ho =>
      obtain rfl := Option.some.inj ho
      have h0 : a'.eval (.tmp 5) = .pointer (some ⟨w.heap.size + 2, 0, none⟩) := (hx 5 (by decide)).trans rfl
      exact wp_load_row 27 _ rfl (w.heap.size + 2) h0 _ _ (0, 0) _ (K.below hB q2.out) Try.underlying27 rfl info_addrP (hK _ _ rfl (Below.refl _ _))
    | 2, _, ho =>
      obtain rfl := Option.some.inj ho
      have h0 : a'.eval (.tmp 7) = .int .i64 17 := (hx 7 (by decide)).trans rfl
      exact u_move _ _ rfl h0 (hK _ _ rfl (Below.refl _ _))
    | 3, _, ho =>
      obtain rfl := Option.some.inj ho
      have h0 : a'.eval (.tmp 3) = .pointer (some ⟨w.heap.size, 0, none⟩) := (hx 3 (by decide)).trans rfl
      exact wp_load_row 36 _ rfl (w.heap.size) h0 _ _ (0, 0) _ (K.below hB q0.out) Try.underlying36 rfl info_up (hK _ _ rfl (Below.refl _ _))
    | 4, _, ho =>
      obtain rfl := Option.some.inj ho
      have h0 : a'.eval (.tmp 23) = .agg #[.int .i64 2, .int .i64 sport, .int .i64 dport, .int .i64 seq, .int .i64 ack, .int .i64 bits, .int .i64 window, .int .i64 urgent, .int .i64 ty, .int .i64 code, .int .i64 rest, .bool nosum, .slice A n c, .slice D m d] := (owns_of hnd 3 23 (by kernel_rfl) :)
      refine u_upSizeI _ _ _ rfl h0 (Calls.mono (implUpSize (Uh.mk 2 sport dport seq ack bits window urgent ty code rest nosum) A D n c m d v (by omega) (by omega)) ?_)
      rintro e' v' ⟨rfl, b6⟩
      exact ⟨_, rfl, hK _ _ rfl b6⟩
    | 5, _, ho =>
      obtain rfl := Option.some.inj ho
      have h0 : a'.eval (.tmp 20) = .agg #[.int .i64 s.k, .int .i64 s.a, .int .i64 s.b, .int .i64 s.c, .int .i64 s.d] := (owns_of hnd 0 20 (by kernel_rfl) :)
      have h1 : a'.eval (.tmp 21) = .agg #[.int .i64 t.k, .int .i64 t.a, .int .i64 t.b, .int .i64 t.c, .int .i64 t.d] := (owns_of hnd 1 21 (by kernel_rfl) :)
      have h2 : a'.eval (.tmp 22) = .int .i64 17 := (owns_of hnd 2 22 (by kernel_rfl) :)
      have h3 : a'.eval (.tmp 24) = .int .i64 (8 + (m : Int)) := (owns_of hnd 4 24 (by kernel_rfl) :)
      refine u_psI4 _ _ _ _ _ _ _ _ _ rfl h0 h1 h2 h3 (Calls.mono (psI s t 17 (8 + (m : Int)) v) ?_)
      rintro e' v' ⟨rfl, b6⟩
      exact ⟨_, rfl, hK _ _ rfl b6⟩
    | j + 6, hj, _ => omega
  · intro f v hf hB
    have e0 : f 0 = (.agg #[.int .i64 s.k, .int .i64 s.a, .int .i64 s.b, .int .i64 s.c, .int .i64 s.d]) := hf (0, 20) (by decide)
    have e1 : f 1 = (.agg #[.int .i64 t.k, .int .i64 t.a, .int .i64 t.b, .int .i64 t.c, .int .i64 t.d]) := hf (1, 21) (by decide)
    have e2 : f 2 = (.int .i64 17) := hf (2, 22) (by decide)
    have e3 : f 3 = (.agg #[.int .i64 2, .int .i64 sport, .int .i64 dport, .int .i64 seq, .int .i64 ack, .int .i64 bits, .int .i64 window, .int .i64 urgent, .int .i64 ty, .int .i64 code, .int .i64 rest, .bool nosum, .slice A n c, .slice D m d]) := hf (3, 23) (by decide)
    have e4 : f 4 = (.int .i64 (8 + (m : Int))) := hf (4, 24) (by decide)
    have e5 : f 5 = (.int .i64 (psSum s t 17 (8 + (m : Int)))) := hf (5, 25) (by decide)
    simp only [List.foldl_cons, List.foldl_nil, List.drop_succ_cons, List.drop_zero, e0, e1, e2, e3, e4, e5]
    clear e0 e1 e2 e3 e4 e5 hf
    go_simp
    have B1 := Lib.hid (bthen HB.out hB)
    clear hB
    go_wp2
    go_ret
    exact ⟨rfl, B1.out⟩
set_option maxHeartbeats 2000000 in
theorem pseudo3_4 (sport dport seq ack bits window urgent ty code rest : Int) (nosum : Bool) (s : Ad) (t : Ad) (A D : Option Addr) (n c m d : Nat) (w : World) (hk : s.k = 4) : Calls Try.prog 68 #[.agg #[.int .i64 3, .int .i64 sport, .int .i64 dport, .int .i64 seq, .int .i64 ack, .int .i64 bits, .int .i64 window, .int .i64 urgent, .int .i64 ty, .int .i64 code, .int .i64 rest, .bool nosum, .slice A n c, .slice D m d], .agg #[.int .i64 s.k, .int .i64 s.a, .int .i64 s.b, .int .i64 s.c, .int .i64 s.d], .agg #[.int .i64 t.k, .int .i64 t.a, .int .i64 t.b, .int .i64 t.c, .int .i64 t.d]] w fun e w' => e = .returned (.int .i64 (0)) ∧ Below w.heap.size w w' := by
  go_enter Try.func68, Try.ntmps68
  go_wp2
  go_ret
  exact ⟨rfl, by go_grown⟩
set_option maxHeartbeats 2000000 in
theorem pseudo3_6 (sport dport seq ack bits window urgent ty code rest : Int) (nosum : Bool) (sa sb sc sd : Int) (t : Ad) (A D : Option Addr) (n c m d : Nat) (w : World) (hn : n ≤ 40) (hm : m ≤ 1500) : Calls Try.prog 68 #[.agg #[.int .i64 3, .int .i64 sport, .int .i64 dport, .int .i64 seq, .int .i64 ack, .int .i64 bits, .int .i64 window, .int .i64 urgent, .int .i64 ty, .int .i64 code, .int .i64 rest, .bool nosum, .slice A n c, .slice D m d], .agg #[.int .i64 (Ad.mk 6 sa sb sc sd).k, .int .i64 (Ad.mk 6 sa sb sc sd).a, .int .i64 (Ad.mk 6 sa sb sc sd).b, .int .i64 (Ad.mk 6 sa sb sc sd).c, .int .i64 (Ad.mk 6 sa sb sc sd).d], .agg #[.int .i64 t.k, .int .i64 t.a, .int .i64 t.b, .int .i64 t.c, .int .i64 t.d]] w fun e w' => e = .returned (.int .i64 (psSum (Ad.mk 6 sa sb sc sd) t 58 (8 + (m : Int)))) ∧ Below w.heap.size w w' := by
  have q0 : Hid ((((w.alloc (.cells #[.int .i64 3, .int .i64 sport, .int .i64 dport, .int .i64 seq, .int .i64 ack, .int .i64 bits, .int .i64 window, .int .i64 urgent, .int .i64 ty, .int .i64 code, .int .i64 rest, .bool nosum, .slice A n c, .slice D m d] 36)).alloc (.cells #[.int .i64 (Ad.mk 6 sa sb sc sd).k, .int .i64 (Ad.mk 6 sa sb sc sd).a, .int .i64 (Ad.mk 6 sa sb sc sd).b, .int .i64 (Ad.mk 6 sa sb sc sd).c, .int .i64 (Ad.mk 6 sa sb sc sd).d] 27)).alloc (.cells #[.int .i64 t.k, .int .i64 t.a, .int .i64 t.b, .int .i64 t.c, .int .i64 t.d] 27)).heap[w.heap.size]? = some (.cells #[.int .i64 3, .int .i64 sport, .int .i64 dport, .int .i64 seq, .int .i64 ack, .int .i64 bits, .int .i64 window, .int .i64 urgent, .int .i64 ty, .int .i64 code, .int .i64 rest, .bool nosum, .slice A n c, .slice D m d] 36)) := Lib.hid (by repeat (first | exact K.newAt (by first | rfl | (simp; done)) | refine K.oldAt (by first | (simp; done) | (simp; omega)) ?_))
  have q1 : Hid ((((w.alloc (.cells #[.int .i64 3, .int .i64 sport, .int .i64 dport, .int .i64 seq, .int .i64 ack, .int .i64 bits, .int .i64 window, .int .i64 urgent, .int .i64 ty, .int .i64 code, .int .i64 rest, .bool nosum, .slice A n c, .slice D m d] 36)).alloc (.cells #[.int .i64 (Ad.mk 6 sa sb sc sd).k, .int .i64 (Ad.mk 6 sa sb sc sd).a, .int .i64 (Ad.mk 6 sa sb sc sd).b, .int .i64 (Ad.mk 6 sa sb sc sd).c, .int .i64 (Ad.mk 6 sa sb sc sd).d] 27)).alloc (.cells #[.int .i64 t.k, .int .i64 t.a, .int .i64 t.b, .int .i64 t.c, .int .i64 t.d] 27)).heap[w.heap.size + 1]? = some (.cells #[.int .i64 (Ad.mk 6 sa sb sc sd).k, .int .i64 (Ad.mk 6 sa sb sc sd).a, .int .i64 (Ad.mk 6 sa sb sc sd).b, .int .i64 (Ad.mk 6 sa sb sc sd).c, .int .i64 (Ad.mk 6 sa sb sc sd).d] 27)) := Lib.hid (by repeat (first | exact K.newAt (by first | rfl | (simp; done)) | refine K.oldAt (by first | (simp; done) | (simp; omega)) ?_))
  have q2 : Hid ((((w.alloc (.cells #[.int .i64 3, .int .i64 sport, .int .i64 dport, .int .i64 seq, .int .i64 ack, .int .i64 bits, .int .i64 window, .int .i64 urgent, .int .i64 ty, .int .i64 code, .int .i64 rest, .bool nosum, .slice A n c, .slice D m d] 36)).alloc (.cells #[.int .i64 (Ad.mk 6 sa sb sc sd).k, .int .i64 (Ad.mk 6 sa sb sc sd).a, .int .i64 (Ad.mk 6 sa sb sc sd).b, .int .i64 (Ad.mk 6 sa sb sc sd).c, .int .i64 (Ad.mk 6 sa sb sc sd).d] 27)).alloc (.cells #[.int .i64 t.k, .int .i64 t.a, .int .i64 t.b, .int .i64 t.c, .int .i64 t.d] 27)).heap[w.heap.size + 1 + 1]? = some (.cells #[.int .i64 t.k, .int .i64 t.a, .int .i64 t.b, .int .i64 t.c, .int .i64 t.d] 27)) := Lib.hid (by repeat (first | exact K.newAt (by first | rfl | (simp; done)) | refine K.oldAt (by first | (simp; done) | (simp; omega)) ?_))
  (try simp only at q0 q1 q2)
  have HB : Hid (Below w.heap.size w (((w.alloc (.cells #[.int .i64 3, .int .i64 sport, .int .i64 dport, .int .i64 seq, .int .i64 ack, .int .i64 bits, .int .i64 window, .int .i64 urgent, .int .i64 ty, .int .i64 code, .int .i64 rest, .bool nosum, .slice A n c, .slice D m d] 36)).alloc (.cells #[.int .i64 (Ad.mk 6 sa sb sc sd).k, .int .i64 (Ad.mk 6 sa sb sc sd).a, .int .i64 (Ad.mk 6 sa sb sc sd).b, .int .i64 (Ad.mk 6 sa sb sc sd).c, .int .i64 (Ad.mk 6 sa sb sc sd).d] 27)).alloc (.cells #[.int .i64 t.k, .int .i64 t.a, .int .i64 t.b, .int .i64 t.c, .int .i64 t.d] 27))) := Lib.hid (by go_grown)
  try simp only at HB
  go_enter Try.func68, Try.ntmps68
  go_wp2_with fail
  refine wp_region_owns (by kernel_rfl) 6 26 [(0, 20), (1, 21), (2, 22), (3, 23), (4, 24), (5, 25)] _ ([.val (.agg #[.int .i64 (Ad.mk 6 sa sb sc sd).k, .int .i64 (Ad.mk 6 sa sb sc sd).a, .int .i64 (Ad.mk 6 sa sb sc sd).b, .int .i64 (Ad.mk 6 sa sb sc sd).c, .int .i64 (Ad.mk 6 sa sb sc sd).d]), .val (.agg #[.int .i64 t.k, .int .i64 t.a, .int .i64 t.b, .int .i64 t.c, .int .i64 t.d]), .val (.int .i64 58), .val (.agg #[.int .i64 3, .int .i64 sport, .int .i64 dport, .int .i64 seq, .int .i64 ack, .int .i64 bits, .int .i64 window, .int .i64 urgent, .int .i64 ty, .int .i64 code, .int .i64 rest, .bool nosum, .slice A n c, .slice D m d]), .val (.int .i64 (8 + (m : Int))), .val (.int .i64 (psSum (Ad.mk 6 sa sb sc sd) t 58 (8 + (m : Int))))]) (by kernel_rfl) (by kernel_rfl) rfl rfl ?_ ?_
  · intro j o hj ho a' v K' hx hnd hB hK
    match j, hj, ho with
    | 0, _, ho =>
      obtain rfl := Option.some.inj ho
      have h0 : a'.eval (.tmp 4) = .pointer (some ⟨w.heap.size + 1, 0, none⟩) := (hx 4 (by decide)).trans rfl
      exact wp_load_row 27 _ rfl (w.heap.size + 1) h0 _ _ (0, 0) _ (K.below hB q1.out) Try.underlying27 rfl info_addrP (hK _ _ rfl (Below.refl _ _))
    | 1, _, ho =>
      obtain rfl := Option.some.inj ho
      have h0 : a'.eval (.tmp 5) = .pointer (some ⟨w.heap.size + 2, 0, none⟩) := (hx 5 (by decide)).trans rfl
      exact wp_load_row 27 _ rfl (w.heap.size + 2) h0 _ _ (0, 0) _ (K.below hB q2.out) Try.underlying27 rfl info_addrP (hK _ _ rfl (Below.refl _ _))
    | 2, _, ho =>
      obtain rfl := Option.some.inj ho
      have h0 : a'.eval (.tmp 7) = .int .i64 58 := (hx 7 (by decide)).trans rfl
      exact u_move _ _ rfl h0 (hK _ _ rfl (Below.refl _ _))
    | 3, _, ho =>
      obtain rfl := Option.some.inj ho
      have h0 : a'.eval (.tmp 3) = .pointer (some ⟨w.heap.size, 0, none⟩) := (hx 3 (by decide)).trans rfl
      exact wp_load_row 36 _ rfl (w.heap.size) h0 _ _ (0, 0) _ (K.below hB q0.out) Try.underlying36 rfl info_up (hK _ _ rfl (Below.refl _ _))
    | 4, _, ho =>
      obtain rfl := Option.some.inj ho
      have h0 : a'.eval (.tmp 23) = .agg #[.int .i64 3, .int .i64 sport, .int .i64 dport, .int .i64 seq, .int .i64 ack, .int .i64 bits, .int .i64 window, .int .i64 urgent, .int .i64 ty, .int .i64 code, .int .i64 rest, .bool nosum, .slice A n c, .slice D m d] := (owns_of hnd 3 23 (by kernel_rfl) :)
      refine u_upSizeI _ _ _ rfl h0 (Calls.mono (implUpSize (Uh.mk 3 sport dport seq ack bits window urgent ty code rest nosum) A D n c m d v (by omega) (by omega)) ?_)
      rintro e' v' ⟨rfl, b6⟩
      exact ⟨_, rfl, hK _ _ rfl b6⟩
    | 5, _, ho =>
      obtain rfl := Option.some.inj ho
      have h0 : a'.eval (.tmp 20) = .agg #[.int .i64 (Ad.mk 6 sa sb sc sd).k, .int .i64 (Ad.mk 6 sa sb sc sd).a, .int .i64 (Ad.mk 6 sa sb sc sd).b, .int .i64 (Ad.mk 6 sa sb sc sd).c, .int .i64 (Ad.mk 6 sa sb sc sd).d] := (owns_of hnd 0 20 (by kernel_rfl) :)
      have h1 : a'.eval (.tmp 21) = .agg #[.int .i64 t.k, .int .i64 t.a, .int .i64 t.b, .int .i64 t.c, .int .i64 t.d] := (owns_of hnd 1 21 (by kernel_rfl) :)
      have h2 : a'.eval (.tmp 22) = .int .i64 58 := (owns_of hnd 2 22 (by kernel_rfl) :)
      have h3 : a'.eval (.tmp 24) = .int .i64 (8 + (m : Int)) := (owns_of hnd 4 24 (by kernel_rfl) :)
      refine u_psI4 _ _ _ _ _ _ _ _ _ rfl h0 h1 h2 h3 (Calls.mono (psI (Ad.mk 6 sa sb sc sd) t 58 (8 + (m : Int)) v) ?_)
      rintro e' v' ⟨rfl, b6⟩
      exact ⟨_, rfl, hK _ _ rfl b6⟩
    | j + 6, hj, _ => omega
  · intro f v hf hB
    have e0 : f 0 = (.agg #[.int .i64 (Ad.mk 6 sa sb sc sd).k, .int .i64 (Ad.mk 6 sa sb sc sd).a, .int .i64 (Ad.mk 6 sa sb sc sd).b, .int .i64 (Ad.mk 6 sa sb sc sd).c, .int .i64 (Ad.mk 6 sa sb sc sd).d]) := hf (0, 20) (by decide)
    have e1 : f 1 = (.agg #[.int .i64 t.k, .int .i64 t.a, .int .i64 t.b, .int .i64 t.c, .int .i64 t.d]) := hf (1, 21) (by decide)
    have e2 : f 2 = (.int .i64 58) := hf (2, 22) (by decide)
    have e3 : f 3 = (.agg #[.int .i64 3, .int .i64 sport, .int .i64 dport, .int .i64 seq, .int .i64 ack, .int .i64 bits, .int .i64 window, .int .i64 urgent, .int .i64 ty, .int .i64 code, .int .i64 rest, .bool nosum, .slice A n c, .slice D m d]) := hf (3, 23) (by decide)
    have e4 : f 4 = (.int .i64 (8 + (m : Int))) := hf (4, 24) (by decide)
    have e5 : f 5 = (.int .i64 (psSum (Ad.mk 6 sa sb sc sd) t 58 (8 + (m : Int)))) := hf (5, 25) (by decide)
    simp only [List.foldl_cons, List.foldl_nil, List.drop_succ_cons, List.drop_zero, e0, e1, e2, e3, e4, e5]
    clear e0 e1 e2 e3 e4 e5 hf
    go_simp
    have B1 := Lib.hid (bthen HB.out hB)
    clear hB
    go_wp2
    go_ret
    exact ⟨rfl, B1.out⟩
theorem pseudoC (x : Uh) (s t : Ad) (A D : Option Addr) (n c m d : Nat) (w : World) (hn : n ≤ 40) (hm : m ≤ 1500) (hk : x.kind = 1 ∨ x.kind = 2 ∨ x.kind = 3) (hs : s.k = 4 ∨ s.k = 6) : Calls Try.prog 68 #[.agg #[.int .i64 x.kind, .int .i64 x.sport, .int .i64 x.dport, .int .i64 x.seq, .int .i64 x.ack, .int .i64 x.bits, .int .i64 x.window, .int .i64 x.urgent, .int .i64 x.ty, .int .i64 x.code, .int .i64 x.rest, .bool x.nosum, .slice A n c, .slice D m d], .agg #[.int .i64 s.k, .int .i64 s.a, .int .i64 s.b, .int .i64 s.c, .int .i64 s.d], .agg #[.int .i64 t.k, .int .i64 t.a, .int .i64 t.b, .int .i64 t.c, .int .i64 t.d]] w fun e w' => e = .returned (.int .i64 (x.top n m s t)) ∧ Below w.heap.size w w' := by
  obtain ⟨kind, sport, dport, seq, ack, bits, window, urgent, ty, code, rest, nosum⟩ := x
  try simp only at hk
  rcases hk with rfl | rfl | rfl
  · exact pseudo1 sport dport seq ack bits window urgent ty code rest nosum s t A D n c m d w hn hm
  · exact pseudo2 sport dport seq ack bits window urgent ty code rest nosum s t A D n c m d w hn hm
  · rcases hs with h | h
    · exact (pseudo3_4 sport dport seq ack bits window urgent ty code rest nosum s t A D n c m d w h).mono fun _ _ ⟨he, hb⟩ => ⟨he.trans (ret_int (by simp [Uh.top, h])), hb⟩
    · obtain ⟨sk, sa, sb, sc, sd⟩ := s
      try simp only at h
      subst h
      exact pseudo3_6 sport dport seq ack bits window urgent ty code rest nosum sa sb sc sd t A D n c m d w hn hm
end Go.Proofs.Ythogonpjkngpjaa
