/-
  Calls as single operations of a region: Put16 and Put32. The head of an IPv4 packet, in the program. Single operations of a region that the formats' bytes need, and whole loads and stores of the formats. The bytes ahead of the body in the program: kind 1. The bytes ahead of the body in the program: kind 2. The bytes ahead of the body in the program: kind 3.
-/
import Derived.Test.YthogonpjkngpjaaRc11
import Derived.Test.YthogonpjkngpjaaRc12
import Derived.Test.YthogonpjkngpjaaRc08
namespace Go.Proofs.Ythogonpjkngpjaa
set_option maxRecDepth 100000
open Go.RowKit
section
variable {o : Oper} {a : Act} {w : World} {K : Act → World → Prop} {Q : Exit → Act → World → Prop}
theorem u_p16S (x : Operand) (x0 : Value) (ts : Array TypeId) (ho : o.op = .call { callee := .value (.func 58), args := #[x], argTypes := ts }) (h0 : a.eval x = x0)
    (h : Calls Try.prog 58 #[x0] w fun e w' => ∃ v, e = .returned v ∧ K (a.put o.dst v) w') : o.wp Try.prog a w K Q := by
  unfold Oper.wp execOp
  simp only [ho, resolve, List.map_toArray, List.map_cons, List.map_nil, h0, show ∀ f, a.eval (.func f) = .func (.func f) #[] #[] from fun _ => rfl]
  go_simp
  exact h.mono fun e w' ⟨u, he, hk⟩ => by subst he; exact hk
theorem u_p32S (x : Operand) (x0 : Value) (ts : Array TypeId) (ho : o.op = .call { callee := .value (.func 99), args := #[x], argTypes := ts }) (h0 : a.eval x = x0)
    (h : Calls Try.prog 99 #[x0] w fun e w' => ∃ v, e = .returned v ∧ K (a.put o.dst v) w') : o.wp Try.prog a w K Q := by
  unfold Oper.wp execOp
  simp only [ho, resolve, List.map_toArray, List.map_cons, List.map_nil, h0, show ∀ f, a.eval (.func f) = .func (.func f) #[] #[] from fun _ => rfl]
  go_simp
  exact h.mono fun e w' ⟨u, he, hk⟩ => by subst he; exact hk
theorem u_p16I (x : Operand) (x0 : Value) (ts : Array TypeId) (ho : o.op = .call { callee := .value (.func 75), args := #[x], argTypes := ts }) (h0 : a.eval x = x0)
    (h : Calls Try.prog 75 #[x0] w fun e w' => ∃ v, e = .returned v ∧ K (a.put o.dst v) w') : o.wp Try.prog a w K Q := by
  unfold Oper.wp execOp
  simp only [ho, resolve, List.map_toArray, List.map_cons, List.map_nil, h0, show ∀ f, a.eval (.func f) = .func (.func f) #[] #[] from fun _ => rfl]
  go_simp
  exact h.mono fun e w' ⟨u, he, hk⟩ => by subst he; exact hk
theorem u_headT (x : Operand) (x0 : Value) (ts : Array TypeId) (ho : o.op = .call { callee := .value (.func 121), args := #[x], argTypes := ts }) (h0 : a.eval x = x0)
    (h : Calls Try.prog 121 #[x0] w fun e w' => ∃ v, e = .returned v ∧ K (a.put o.dst v) w') : o.wp Try.prog a w K Q := by
  unfold Oper.wp execOp
  simp only [ho, resolve, List.map_toArray, List.map_cons, List.map_nil, h0, show ∀ f, a.eval (.func f) = .func (.func f) #[] #[] from fun _ => rfl]
  go_simp
  exact h.mono fun e w' ⟨u, he, hk⟩ => by subst he; exact hk
end
theorem put32J (n : Int) (w : World) : Calls Try.prog 74 #[.int .i64 n] w (TwoOut (put32 n) 4 w) := (implPut32 n w).mono fun _ _ ⟨h, o, b⟩ => ⟨_, _, h, o, b⟩
def EncOut (L : List UInt8) (w : World) (e : Ending) (w' : World) : Prop := ∃ A c, e = .returned (.slice A L.length c) ∧ w'.ownsRow w.heap.size 5 1 (.slice A L.length c) L.length (cellsOf L) ∧ Below w.heap.size w w'
theorem encOut {L M : List UInt8} {N : Nat} {w w' : World} {A : Option Addr} {c : Nat} (hM : M = L) (hN : M.length = N) (h : w'.ownsRow w.heap.size 5 1 (.slice A N c) N (cellsOf M) ∧ Below w.heap.size w w') : EncOut L w (.returned (.slice A N c)) w' := by
  subst hM
  subst hN
  exact ⟨A, c, rfl, h.1, h.2⟩
end Go.Proofs.Ythogonpjkngpjaa

namespace Go.Proofs.Ythogonpjkngpjaa
set_option maxRecDepth 100000
open Go.RowKit
theorem run_make_b (m : Nat) (hm : m ≤ 1048576) (w : World) : (Instr.makeSlice 34 (.int .i64 0) (.int .i64 (m : Int))).run Try.prog w = .ok (.slice (some ⟨w.heap.size, 0, none⟩) 0 m) (w.alloc (.cells (madeCells #[.int .u8 0] m) 5)) := by
  obtain ⟨i0, hi0, hz0, hz1, hz2⟩ := info_parts info_u8
  have := run_make (P := Try.prog) w 34 5 i0 (.int .u8 0) Try.underlying34 hi0 hz0 .i64 .i64 0 (m : Int) (Int.le_refl _) (by omega) (by rw [hz2]; omega) (by omega)
  simpa [hz1, Value.cells] using this
theorem run_make_z (z : Int) (m : Nat) (hz : z = (m : Int)) (hm : m ≤ 1048576) (w : World) : (Instr.makeSlice 34 (.int .i64 0) (.int .i64 z)).run Try.prog w = .ok (.slice (some ⟨w.heap.size, 0, none⟩) 0 m) (w.alloc (.cells (madeCells #[.int .u8 0] m) 5)) := hz ▸ run_make_b m hm w
end Go.Proofs.Ythogonpjkngpjaa

namespace Go.Proofs.Ythogonpjkngpjaa
set_option maxRecDepth 100000
open Go.RowKit
theorem or_12 (m b : Int) (h0 : 0 ≤ m) (h1 : m ≤ 1000000) (h2 : 0 ≤ b) (h3 : b ≤ 4095) : bits .or .i64 (4096 * m) b = 4096 * m + b := by
  have h := or_mul m.toNat b.toNat 12 (by omega) (by omega)
  rw [show ((2 ^ 12 * m.toNat : Nat) : Int) = 4096 * m by omega, show (b.toNat : Int) = b by omega, show ((2 ^ 12 * m.toNat + b.toNat : Nat) : Int) = 4096 * m + b by omega] at h
  exact h
section
variable {o : Oper} {a : Act} {w : World} {K : Act → World → Prop} {Q : Exit → Act → World → Prop}
theorem u_quo4 (x : Operand) (m : Int) (ho : o.op = .binOp .quo 3 x (.const (.int .i64 4)) 3) (hx : a.eval x = .int .i64 m) (h0 : 0 ≤ m) (h1 : m ≤ 1000000) (hK : K (a.put o.dst (.int .i64 (m / 4))) w) : o.wp Try.prog a w K Q := by
  unfold Oper.wp execOp
  simp only [ho, hx, show ∀ v, a.eval (.const v) = v from fun _ => rfl]
  go_simp
  rw [show IntKind.i64.wrap (m.tdiv 4) = m / 4 by rw [IntKind.wrap_i64, Int.tdiv_eq_ediv_of_nonneg h0]; omega]
  exact hK
theorem u_shl12 (x : Operand) (m : Int) (ho : o.op = .binOp .shl 3 x (.const (.int .u64 12)) 95) (hx : a.eval x = .int .i64 m) (h0 : 0 ≤ m) (h1 : m ≤ 1000000) (hK : K (a.put o.dst (.int .i64 (4096 * m))) w) : o.wp Try.prog a w K Q := by
  unfold Oper.wp execOp
  simp only [ho, hx, show ∀ v, a.eval (.const v) = v from fun _ => rfl]
  go_simp
  rw [show IntKind.i64.wrap (m * 4096) = 4096 * m by rw [IntKind.wrap_i64]; omega]
  exact hK
theorem u_or12 (x y : Operand) (m b : Int) (ho : o.op = .binOp .or 3 x y 3) (hx : a.eval x = .int .i64 (4096 * m)) (hy : a.eval y = .int .i64 b) (h0 : 0 ≤ m) (h1 : m ≤ 1000000) (h2 : 0 ≤ b) (h3 : b ≤ 4095) (hK : K (a.put o.dst (.int .i64 (4096 * m + b))) w) : o.wp Try.prog a w K Q := by
  unfold Oper.wp execOp
  simp only [ho, hx, hy]
  go_simp
  rw [or_12 m b h0 h1 h2 h3]
  exact hK
theorem u_twoO (b0 : Nat) (x y : Operand) (m n : Int) (ho : o.op = .buildSlice 34 2 #[(0, x), (1, y)]) (hx : a.eval x = .int .u8 m) (hy : a.eval y = .int .u8 n) (hm : 0 ≤ m ∧ m < 256) (hn : 0 ≤ n ∧ n < 256) (hb : b0 ≤ w.heap.size)
    (hK : ∀ v w', (∃ A c, v = .slice A 2 c ∧ w'.ownsRow b0 5 1 (.slice A 2 c) 2 (cellsOf [byteOf m, byteOf n])) → Below w.heap.size w w' → K (a.put o.dst v) w') : o.wp Try.prog a w K Q := by
  unfold Oper.wp execOp
  simp only [ho, List.map_toArray, List.map_cons, List.map_nil, hx, hy]
  go_simp
  have e : cellsOf [byteOf m, byteOf n] = [.int .u8 m, .int .u8 n] := by simp [cellsOf, byteOf_val, Int.emod_eq_of_lt hm.1 hm.2, Int.emod_eq_of_lt hn.1 hn.2]
  exact hK _ _ ⟨_, _, rfl, by rw [e]; exact World.ownsRow_lit w _ 2 hb (by decide) rfl⟩ (Joins.below_alloc1 w _)
end
theorem info_tcp : (Try.prog.info? 110).map (·.size) = some 14 := by kernel_rfl
theorem load_tcp {ops : Array Oper} {rest : List Oper} {o : Oper} {a : Act} {w : World} {Q : Exit → Act → World → Prop} (hgd : o.guard = none) (x : Operand) (ho : o.op = .load 110 x) (g : Nat) (hx : a.eval x = .pointer (some ⟨g, 0, none⟩)) {t : TypeId} {v0 v1 v2 v3 v4 v5 v6 v7 v8 v9 v10 v11 v12 v13 : Value}
    (hg : w.heap[g]? = some (.cells #[v0, v1, v2, v3, v4, v5, v6, v7, v8, v9, v10, v11, v12, v13] t (0, 0))) (h : wpList Try.prog ops Q rest (a.put o.dst (.agg #[v0, v1, v2, v3, v4, v5, v6, v7, v8, v9, v10, v11, v12, v13])) w) : wpList Try.prog ops Q (o :: rest) a w :=
  wpList_load_row hgd 110 x ho g hx t _ (0, 0) _ hg Try.underlying110 rfl info_tcp h
theorem storeNew_tcp {ops : Array Oper} {rest : List Oper} {o : Oper} {a : Act} {w : World} {Q : Exit → Act → World → Prop} (hgd : o.guard = none) (x y : Operand) (ho : o.op = .store 110 x y) {n0 n1 n2 n3 n4 n5 n6 n7 n8 n9 n10 : Int} {bb : Bool} {A D : Option Addr} {l c m d : Nat} (hx : a.eval x = .pointer (some ⟨w.heap.size, 0, none⟩)) (hy : a.eval y = .agg #[.int .i64 n0, .int .i64 n1, .int .i64 n2, .int .i64 n3, .int .i64 n4, .int .i64 n5, .int .i64 n6, .int .i64 n7, .int .i64 n8, .int .i64 n9, .int .i64 n10, .bool bb, .slice A l c, .slice D m d])
    (h : wpList Try.prog ops Q rest (a.put o.dst undef) (w.alloc (.cells #[.int .i64 n0, .int .i64 n1, .int .i64 n2, .int .i64 n3, .int .i64 n4, .int .i64 n5, .int .i64 n6, .int .i64 n7, .int .i64 n8, .int .i64 n9, .int .i64 n10, .bool bb, .slice A l c, .slice D m d] 110))) : wpList Try.prog ops Q (o :: rest) a (w.alloc (.cells #[.int .i64 0, .int .i64 0, .int .i64 0, .int .i64 0, .int .i64 0, .int .i64 0, .int .i64 0, .int .i64 0, .int .i64 0, .int .i64 0, .int .i64 0, .bool false, .slice none 0 0, .slice none 0 0] 110)) := by
  refine wpList_store_row hgd 110 x y ho w.heap.size _ hx hy 110 _ (K.new w _) info_tcp rfl (by simp [Value.oneCell']) ?_
  rw [World.setRow_alloc_new]
  exact h
theorem info_udp : (Try.prog.info? 111).map (·.size) = some 14 := by kernel_rfl
theorem load_udp {ops : Array Oper} {rest : List Oper} {o : Oper} {a : Act} {w : World} {Q : Exit → Act → World → Prop} (hgd : o.guard = none) (x : Operand) (ho : o.op = .load 111 x) (g : Nat) (hx : a.eval x = .pointer (some ⟨g, 0, none⟩)) {t : TypeId} {v0 v1 v2 v3 v4 v5 v6 v7 v8 v9 v10 v11 v12 v13 : Value}
    (hg : w.heap[g]? = some (.cells #[v0, v1, v2, v3, v4, v5, v6, v7, v8, v9, v10, v11, v12, v13] t (0, 0))) (h : wpList Try.prog ops Q rest (a.put o.dst (.agg #[v0, v1, v2, v3, v4, v5, v6, v7, v8, v9, v10, v11, v12, v13])) w) : wpList Try.prog ops Q (o :: rest) a w :=
  wpList_load_row hgd 111 x ho g hx t _ (0, 0) _ hg Try.underlying111 rfl info_udp h
theorem storeNew_udp {ops : Array Oper} {rest : List Oper} {o : Oper} {a : Act} {w : World} {Q : Exit → Act → World → Prop} (hgd : o.guard = none) (x y : Operand) (ho : o.op = .store 111 x y) {n0 n1 n2 n3 n4 n5 n6 n7 n8 n9 n10 : Int} {bb : Bool} {A D : Option Addr} {l c m d : Nat} (hx : a.eval x = .pointer (some ⟨w.heap.size, 0, none⟩)) (hy : a.eval y = .agg #[.int .i64 n0, .int .i64 n1, .int .i64 n2, .int .i64 n3, .int .i64 n4, .int .i64 n5, .int .i64 n6, .int .i64 n7, .int .i64 n8, .int .i64 n9, .int .i64 n10, .bool bb, .slice A l c, .slice D m d])
    (h : wpList Try.prog ops Q rest (a.put o.dst undef) (w.alloc (.cells #[.int .i64 n0, .int .i64 n1, .int .i64 n2, .int .i64 n3, .int .i64 n4, .int .i64 n5, .int .i64 n6, .int .i64 n7, .int .i64 n8, .int .i64 n9, .int .i64 n10, .bool bb, .slice A l c, .slice D m d] 111))) : wpList Try.prog ops Q (o :: rest) a (w.alloc (.cells #[.int .i64 0, .int .i64 0, .int .i64 0, .int .i64 0, .int .i64 0, .int .i64 0, .int .i64 0, .int .i64 0, .int .i64 0, .int .i64 0, .int .i64 0, .bool false, .slice none 0 0, .slice none 0 0] 111)) := by
  refine wpList_store_row hgd 111 x y ho w.heap.size _ hx hy 111 _ (K.new w _) info_udp rfl (by simp [Value.oneCell']) ?_
  rw [World.setRow_alloc_new]
  exact h
theorem info_icmp : (Try.prog.info? 112).map (·.size) = some 14 := by kernel_rfl
theorem load_icmp {ops : Array Oper} {rest : List Oper} {o : Oper} {a : Act} {w : World} {Q : Exit → Act → World → Prop} (hgd : o.guard = none) (x : Operand) (ho : o.op = .load 112 x) (g : Nat) (hx : a.eval x = .pointer (some ⟨g, 0, none⟩)) {t : TypeId} {v0 v1 v2 v3 v4 v5 v6 v7 v8 v9 v10 v11 v12 v13 : Value}
    (hg : w.heap[g]? = some (.cells #[v0, v1, v2, v3, v4, v5, v6, v7, v8, v9, v10, v11, v12, v13] t (0, 0))) (h : wpList Try.prog ops Q rest (a.put o.dst (.agg #[v0, v1, v2, v3, v4, v5, v6, v7, v8, v9, v10, v11, v12, v13])) w) : wpList Try.prog ops Q (o :: rest) a w :=
  wpList_load_row hgd 112 x ho g hx t _ (0, 0) _ hg Try.underlying112 rfl info_icmp h
theorem storeNew_icmp {ops : Array Oper} {rest : List Oper} {o : Oper} {a : Act} {w : World} {Q : Exit → Act → World → Prop} (hgd : o.guard = none) (x y : Operand) (ho : o.op = .store 112 x y) {n0 n1 n2 n3 n4 n5 n6 n7 n8 n9 n10 : Int} {bb : Bool} {A D : Option Addr} {l c m d : Nat} (hx : a.eval x = .pointer (some ⟨w.heap.size, 0, none⟩)) (hy : a.eval y = .agg #[.int .i64 n0, .int .i64 n1, .int .i64 n2, .int .i64 n3, .int .i64 n4, .int .i64 n5, .int .i64 n6, .int .i64 n7, .int .i64 n8, .int .i64 n9, .int .i64 n10, .bool bb, .slice A l c, .slice D m d])
    (h : wpList Try.prog ops Q rest (a.put o.dst undef) (w.alloc (.cells #[.int .i64 n0, .int .i64 n1, .int .i64 n2, .int .i64 n3, .int .i64 n4, .int .i64 n5, .int .i64 n6, .int .i64 n7, .int .i64 n8, .int .i64 n9, .int .i64 n10, .bool bb, .slice A l c, .slice D m d] 112))) : wpList Try.prog ops Q (o :: rest) a (w.alloc (.cells #[.int .i64 0, .int .i64 0, .int .i64 0, .int .i64 0, .int .i64 0, .int .i64 0, .int .i64 0, .int .i64 0, .int .i64 0, .int .i64 0, .int .i64 0, .bool false, .slice none 0 0, .slice none 0 0] 112)) := by
  refine wpList_store_row hgd 112 x y ho w.heap.size _ hx hy 112 _ (K.new w _) info_icmp rfl (by simp [Value.oneCell']) ?_
  rw [World.setRow_alloc_new]
  exact h
end Go.Proofs.Ythogonpjkngpjaa

namespace Go.Proofs.Ythogonpjkngpjaa
set_option maxRecDepth 100000
open Go.RowKit
set_option maxHeartbeats 8000000 in
theorem tcpB (sport dport seq ack bits window urgent ty code rest : Int) (nosum : Bool) (A D : Option Addr) (n c m d : Nat) (os bs : List UInt8) (sum : Int) (w : World) (hr : RB w w.heap.size A os) (hl : os.length = n) (hs : RB w w.heap.size D bs) (hm : bs.length = m) (hn : n ≤ 40) (_hm2 : m ≤ 1500) (h5 : 0 ≤ bits ∧ bits ≤ 4095) (h4 : n % 4 = 0) : Calls Try.prog 105 #[.agg #[.int .i64 1, .int .i64 sport, .int .i64 dport, .int .i64 seq, .int .i64 ack, .int .i64 bits, .int .i64 window, .int .i64 urgent, .int .i64 ty, .int .i64 code, .int .i64 rest, .bool nosum, .slice A n c, .slice D m d], .int .i64 sum] w (EncOut (tcpH (Uh.mk 1 sport dport seq ack bits window urgent ty code rest nosum) os sum) w) := by
  have q : Hid ((w.alloc (.cells #[.int .i64 1, .int .i64 sport, .int .i64 dport, .int .i64 seq, .int .i64 ack, .int .i64 bits, .int .i64 window, .int .i64 urgent, .int .i64 ty, .int .i64 code, .int .i64 rest, .bool nosum, .slice A n c, .slice D m d] 110)).heap[w.heap.size]? = some (.cells #[.int .i64 1, .int .i64 sport, .int .i64 dport, .int .i64 seq, .int .i64 ack, .int .i64 bits, .int .i64 window, .int .i64 urgent, .int .i64 ty, .int .i64 code, .int .i64 rest, .bool nosum, .slice A n c, .slice D m d] 110)) := Lib.hid (K.new w _)
  have HA := Lib.hid ((hr.below (Joins.below_alloc1 w (.cells #[.int .i64 1, .int .i64 sport, .int .i64 dport, .int .i64 seq, .int .i64 ack, .int .i64 bits, .int .i64 window, .int .i64 urgent, .int .i64 ty, .int .i64 code, .int .i64 rest, .bool nosum, .slice A n c, .slice D m d] 110))))
  have HD := Lib.hid ((hs.below (Joins.below_alloc1 w (.cells #[.int .i64 1, .int .i64 sport, .int .i64 dport, .int .i64 seq, .int .i64 ack, .int .i64 bits, .int .i64 window, .int .i64 urgent, .int .i64 ty, .int .i64 code, .int .i64 rest, .bool nosum, .slice A n c, .slice D m d] 110))))
  have HE : Hid (Below w.heap.size w (w.alloc (.cells #[.int .i64 1, .int .i64 sport, .int .i64 dport, .int .i64 seq, .int .i64 ack, .int .i64 bits, .int .i64 window, .int .i64 urgent, .int .i64 ty, .int .i64 code, .int .i64 rest, .bool nosum, .slice A n c, .slice D m d] 110))) := Lib.hid (Joins.below_alloc1 w _)
  have HL := Lib.hid hl
  have HM := Lib.hid hm
  have hw : (w.alloc (.cells #[.int .i64 1, .int .i64 sport, .int .i64 dport, .int .i64 seq, .int .i64 ack, .int .i64 bits, .int .i64 window, .int .i64 urgent, .int .i64 ty, .int .i64 code, .int .i64 rest, .bool nosum, .slice A n c, .slice D m d] 110)).heap.size = w.heap.size + 1 := by simp
  try simp only at q HA HD HE hw
  clear hr hs hl hm
  go_enter Try.func105, Try.ntmps105
  go_wp2_with fail
  refine wp_region_owns (by kernel_rfl) 8 59 [(0, 6), (1, 7), (2, 8), (3, 9), (4, 10), (5, 11), (6, 12), (7, 13)] _ ([.val (.pointer (some ⟨w.heap.size, 0, none⟩)), .val (.pointer (some ⟨w.heap.size, 1, none⟩)), .val (.int .i64 sport), .own (w.heap.size + 1) 2 (put16 sport), .val (.pointer (some ⟨w.heap.size, 0, none⟩)), .val (.pointer (some ⟨w.heap.size, 2, none⟩)), .val (.int .i64 dport), .own (w.heap.size + 1) 2 (put16 dport)]) (by kernel_rfl) (by kernel_rfl) rfl rfl ?_ ?_
  · intro j o hj ho a' v K' hx hnd hB hK
    match j, hj, ho with
    | 0, _, ho =>
      obtain rfl := Option.some.inj ho
      have h0 : a'.eval (.tmp 2) = .pointer (some ⟨w.heap.size, 0, none⟩) := (hx 2 (by decide)).trans rfl
      exact u_fld_tcp _ _ rfl h0 (hK _ _ rfl (Below.refl _ _))
    | 1, _, ho =>
      obtain rfl := Option.some.inj ho
      have h0 : a'.eval (.tmp 6) = .pointer (some ⟨w.heap.size, 0, none⟩) := (owns_of hnd 0 6 (by kernel_rfl) :)
      exact u_fldU1 _ _ rfl h0 (hK _ _ rfl (Below.refl _ _))
    | 2, _, ho =>
      obtain rfl := Option.some.inj ho
      have h0 : a'.eval (.tmp 7) = .pointer (some ⟨w.heap.size, 1, none⟩) := (owns_of hnd 1 7 (by kernel_rfl) :)
      exact u_int _ _ _ _ rfl h0 (K.cell (K.below hB q.out) 1 _ rfl) (hK _ _ rfl (Below.refl _ _))
    | 3, _, ho =>
      obtain rfl := Option.some.inj ho
      have h0 : a'.eval (.tmp 8) = .int .i64 sport := (owns_of hnd 2 8 (by kernel_rfl) :)
      refine u_p16I _ _ _ rfl h0 (Calls.mono (put16I _ v) ?_)
      rintro e' v' ⟨X, y, rfl, o6, b6⟩
      exact ⟨_, rfl, hK _ _ ⟨X, y, rfl, own_base o6 (by have := hB.size; simp at this; omega)⟩ b6⟩
    | 4, _, ho =>
      obtain rfl := Option.some.inj ho
      have h0 : a'.eval (.tmp 2) = .pointer (some ⟨w.heap.size, 0, none⟩) := (hx 2 (by decide)).trans rfl
      exact u_fld_tcp _ _ rfl h0 (hK _ _ rfl (Below.refl _ _))
    | 5, _, ho =>
      obtain rfl := Option.some.inj ho
      have h0 : a'.eval (.tmp 10) = .pointer (some ⟨w.heap.size, 0, none⟩) := (owns_of hnd 4 10 (by kernel_rfl) :)
      exact u_fldU2 _ _ rfl h0 (hK _ _ rfl (Below.refl _ _))
    | 6, _, ho =>
      obtain rfl := Option.some.inj ho
      have h0 : a'.eval (.tmp 11) = .pointer (some ⟨w.heap.size, 2, none⟩) := (owns_of hnd 5 11 (by kernel_rfl) :)
      exact u_int _ _ _ _ rfl h0 (K.cell (K.below hB q.out) 2 _ rfl) (hK _ _ rfl (Below.refl _ _))
    | 7, _, ho =>
      obtain rfl := Option.some.inj ho
      have h0 : a'.eval (.tmp 12) = .int .i64 dport := (owns_of hnd 6 12 (by kernel_rfl) :)
      refine u_p16I _ _ _ rfl h0 (Calls.mono (put16I _ v) ?_)
      rintro e' v' ⟨X, y, rfl, o6, b6⟩
      exact ⟨_, rfl, hK _ _ ⟨X, y, rfl, own_base o6 (by have := hB.size; simp at this; omega)⟩ b6⟩
    | j + 8, hj, _ => omega
  · intro f v hf hB
    have e0 : f 0 = (.pointer (some ⟨w.heap.size, 0, none⟩)) := hf (0, 6) (by decide)
    have e1 : f 1 = (.pointer (some ⟨w.heap.size, 1, none⟩)) := hf (1, 7) (by decide)
    have e2 : f 2 = (.int .i64 sport) := hf (2, 8) (by decide)
    obtain ⟨X9, y9, e3, r3⟩ := hf (3, 9) (by decide)
    have R9 := Lib.hid r3
    clear r3
    have e4 : f 4 = (.pointer (some ⟨w.heap.size, 0, none⟩)) := hf (4, 10) (by decide)
    have e5 : f 5 = (.pointer (some ⟨w.heap.size, 2, none⟩)) := hf (5, 11) (by decide)
    have e6 : f 6 = (.int .i64 dport) := hf (6, 12) (by decide)
    obtain ⟨X13, y13, e7, r7⟩ := hf (7, 13) (by decide)
    have R13 := Lib.hid r7
    clear r7
    simp only [List.foldl_cons, List.foldl_nil, List.drop_succ_cons, List.drop_zero, e0, e1, e2, e3, e4, e5, e6, e7]
    clear e0 e1 e2 e3 e4 e5 e6 e7 hf
    go_simp
    have BA : Hid (Bd (w.alloc (.cells #[.int .i64 1, .int .i64 sport, .int .i64 dport, .int .i64 seq, .int .i64 ack, .int .i64 bits, .int .i64 window, .int .i64 urgent, .int .i64 ty, .int .i64 code, .int .i64 rest, .bool nosum, .slice A n c, .slice D m d] 110)) (w.heap.size + 1) v X9 2 y9 (put16 sport)) := Lib.hid ⟨R9.out, hB.mono (by simp), by have := hB.size; simp at this; omega, rfl⟩
    clear hB
    refine wpList_append_bd rfl BA.out (.tmp 9) (.tmp 13) rfl rfl _ _ 2 _ (put16 dport) rfl rfl (RB.of_own R13.out) (by omega) 4 (by omega) ?_
    intro A_BB c_BB w_BB bd_BB
    have BB := Lib.hid bd_BB
    clear bd_BB
    have k3 := K.cell (BB.out.row q.out (by omega)) 3 _ rfl
    clear R9 R13 BA
    go_wp2_with fail
    refine Calls.mono (put32J (seq) _) ?_
    rintro e w_BC ⟨X_BC, y_BC, rfl, o_BC, b_BC⟩
    have BC := Lib.hid (BB.out.call b_BC)
    have S1 := Lib.hid (RB.of_own o_BC)
    clear o_BC b_BC
    clear k3 BB
    go_wp2_with (at_builtin; (refine wpList_append_bd rfl BC.out (.tmp 15) (.tmp 19) rfl rfl _ _ 4 _ (put32 seq) rfl rfl S1.out (by omega) 8 (by omega) ?_); intro A_BE c_BE w_BE bd_BE; have BE := Lib.hid bd_BE; clear bd_BE; have k4 := K.cell (BE.out.row q.out (by omega)) 4 _ rfl)
    refine Calls.mono (put32J (ack) _) ?_
    rintro e w_BF ⟨X_BF, y_BF, rfl, o_BF, b_BF⟩
    have BF := Lib.hid (BE.out.call b_BF)
    have S2 := Lib.hid (RB.of_own o_BF)
    clear o_BF b_BF
    clear k4 BC BE
    go_wp2_with (at_builtin; (refine wpList_append_bd rfl BF.out (.tmp 21) (.tmp 25) rfl rfl _ _ 4 _ (put32 ack) rfl rfl S2.out (by omega) 12 (by omega) ?_); intro A_BG c_BG w_BG bd_BG; have BG := Lib.hid bd_BG; clear bd_BG)
    clear BF S1 S2
    have QG := Lib.hid (BG.out.row q.out (by omega))
    refine wp_region_owns (by kernel_rfl) 10 59 [(0, 27), (1, 28), (2, 29), (3, 30), (4, 31), (5, 32), (6, 33), (7, 34), (8, 35), (9, 36)] _ ([.val (.slice A_BG 12 c_BG), .val (.agg #[.int .i64 1, .int .i64 sport, .int .i64 dport, .int .i64 seq, .int .i64 ack, .int .i64 bits, .int .i64 window, .int .i64 urgent, .int .i64 ty, .int .i64 code, .int .i64 rest, .bool nosum, .slice A n c, .slice D m d]), .val (.int .i64 (20 + (n : Int))), .val (.int .i64 ((20 + (n : Int)) / 4)), .val (.int .i64 (4096 * ((20 + (n : Int)) / 4))), .val (.pointer (some ⟨w.heap.size, 0, none⟩)), .val (.pointer (some ⟨w.heap.size, 5, none⟩)), .val (.int .i64 bits), .val (.int .i64 (4096 * ((20 + (n : Int)) / 4) + bits)), .own w_BG.heap.size 2 (put16 (4096 * ((20 + (n : Int)) / 4) + bits))]) (by kernel_rfl) (by kernel_rfl) rfl rfl ?_ ?_
    · intro j o hj ho a' v K' hx hnd hB hK
      match j, hj, ho with
      | 0, _, ho =>
        obtain rfl := Option.some.inj ho
        have h0 : a'.eval (.tmp 5) = .slice A_BG 12 c_BG := (hx 5 (by decide)).trans rfl
        exact u_move _ _ rfl h0 (hK _ _ rfl (Below.refl _ _))
      | 1, _, ho =>
        obtain rfl := Option.some.inj ho
        have h0 : a'.eval (.tmp 2) = .pointer (some ⟨w.heap.size, 0, none⟩) := (hx 2 (by decide)).trans rfl
        exact wp_load_row 110 _ rfl w.heap.size h0 _ _ (0, 0) _ (K.below hB QG.out) Try.underlying110 rfl info_tcp (hK _ _ rfl (Below.refl _ _))
      | 2, _, ho =>
        obtain rfl := Option.some.inj ho
        have h0 : a'.eval (.tmp 28) = .agg #[.int .i64 1, .int .i64 sport, .int .i64 dport, .int .i64 seq, .int .i64 ack, .int .i64 bits, .int .i64 window, .int .i64 urgent, .int .i64 ty, .int .i64 code, .int .i64 rest, .bool nosum, .slice A n c, .slice D m d] := (owns_of hnd 1 28 (by kernel_rfl) :)
        refine u_headT _ _ _ rfl h0 (Calls.mono (head_tcp (Uh.mk 1 sport dport seq ack bits window urgent ty code rest nosum) A D n c m d v (by omega)) ?_)
        rintro e' v' ⟨rfl, b6⟩
        exact ⟨_, rfl, hK _ _ rfl b6⟩
      | 3, _, ho =>
        obtain rfl := Option.some.inj ho
        have h0 : a'.eval (.tmp 29) = .int .i64 (20 + (n : Int)) := (owns_of hnd 2 29 (by kernel_rfl) :)
        exact u_quo4 _ _ rfl h0 (by omega) (by omega) (hK _ _ rfl (Below.refl _ _))
      | 4, _, ho =>
        obtain rfl := Option.some.inj ho
        have h0 : a'.eval (.tmp 30) = .int .i64 ((20 + (n : Int)) / 4) := (owns_of hnd 3 30 (by kernel_rfl) :)
        exact u_shl12 _ _ rfl h0 (by omega) (by omega) (hK _ _ rfl (Below.refl _ _))
      | 5, _, ho =>
        obtain rfl := Option.some.inj ho
        have h0 : a'.eval (.tmp 2) = .pointer (some ⟨w.heap.size, 0, none⟩) := (hx 2 (by decide)).trans rfl
        exact u_fld_tcp _ _ rfl h0 (hK _ _ rfl (Below.refl _ _))
      | 6, _, ho =>
        obtain rfl := Option.some.inj ho
        have h0 : a'.eval (.tmp 32) = .pointer (some ⟨w.heap.size, 0, none⟩) := (owns_of hnd 5 32 (by kernel_rfl) :)
        exact u_fldU5 _ _ rfl h0 (hK _ _ rfl (Below.refl _ _))
      | 7, _, ho =>
        obtain rfl := Option.some.inj ho
        have h0 : a'.eval (.tmp 33) = .pointer (some ⟨w.heap.size, 5, none⟩) := (owns_of hnd 6 33 (by kernel_rfl) :)
        exact u_int _ _ _ _ rfl h0 (K.cell (K.below hB QG.out) 5 _ rfl) (hK _ _ rfl (Below.refl _ _))
      | 8, _, ho =>
        obtain rfl := Option.some.inj ho
        have h0 : a'.eval (.tmp 31) = .int .i64 (4096 * ((20 + (n : Int)) / 4)) := (owns_of hnd 4 31 (by kernel_rfl) :)
        have h1 : a'.eval (.tmp 34) = .int .i64 bits := (owns_of hnd 7 34 (by kernel_rfl) :)
        exact u_or12 _ _ _ _ rfl h0 h1 (by omega) (by omega) h5.1 h5.2 (hK _ _ rfl (Below.refl _ _))
      | 9, _, ho =>
        obtain rfl := Option.some.inj ho
        have h0 : a'.eval (.tmp 35) = .int .i64 (4096 * ((20 + (n : Int)) / 4) + bits) := (owns_of hnd 8 35 (by kernel_rfl) :)
        refine u_p16I _ _ _ rfl h0 (Calls.mono (put16I _ v) ?_)
        rintro e' v' ⟨X, y, rfl, o6, b6⟩
        exact ⟨_, rfl, hK _ _ ⟨X, y, rfl, own_base o6 hB.size⟩ b6⟩
      | j + 10, hj, _ => omega
    · intro f v hf hB
      have e0 : f 0 = (.slice A_BG 12 c_BG) := hf (0, 27) (by decide)
      have e1 : f 1 = (.agg #[.int .i64 1, .int .i64 sport, .int .i64 dport, .int .i64 seq, .int .i64 ack, .int .i64 bits, .int .i64 window, .int .i64 urgent, .int .i64 ty, .int .i64 code, .int .i64 rest, .bool nosum, .slice A n c, .slice D m d]) := hf (1, 28) (by decide)
      have e2 : f 2 = (.int .i64 (20 + (n : Int))) := hf (2, 29) (by decide)
      have e3 : f 3 = (.int .i64 ((20 + (n : Int)) / 4)) := hf (3, 30) (by decide)
      have e4 : f 4 = (.int .i64 (4096 * ((20 + (n : Int)) / 4))) := hf (4, 31) (by decide)
      have e5 : f 5 = (.pointer (some ⟨w.heap.size, 0, none⟩)) := hf (5, 32) (by decide)
      have e6 : f 6 = (.pointer (some ⟨w.heap.size, 5, none⟩)) := hf (6, 33) (by decide)
      have e7 : f 7 = (.int .i64 bits) := hf (7, 34) (by decide)
      have e8 : f 8 = (.int .i64 (4096 * ((20 + (n : Int)) / 4) + bits)) := hf (8, 35) (by decide)
      obtain ⟨X36, y36, e9, r9⟩ := hf (9, 36) (by decide)
      have R36 := Lib.hid r9
      clear r9
      simp only [List.foldl_cons, List.foldl_nil, List.drop_succ_cons, List.drop_zero, e0, e1, e2, e3, e4, e5, e6, e7, e8, e9]
      clear e0 e1 e2 e3 e4 e5 e6 e7 e8 e9 hf
      go_simp
      have BH := Lib.hid (BG.out.call hB)
      clear hB
      refine wpList_append_bd rfl BH.out (.tmp 27) (.tmp 36) rfl rfl _ _ 2 _ (put16 (4096 * ((20 + (n : Int)) / 4) + bits)) rfl rfl (RB.of_own R36.out) (by omega) 14 (by omega) ?_
      intro A_BI c_BI w_BI bd_BI
      have BI := Lib.hid bd_BI
      clear bd_BI
      have k6 := K.cell (BI.out.row q.out (by omega)) 6 _ rfl
      clear R36 BG BH QG
      go_wp2_with fail
      refine Calls.mono (put16I (window) _) ?_
      rintro e w_BJ ⟨X_BJ, y_BJ, rfl, o_BJ, b_BJ⟩
      have BJ := Lib.hid (BI.out.call b_BJ)
      have S3 := Lib.hid (RB.of_own o_BJ)
      clear o_BJ b_BJ
      clear k6 BI
      go_wp2_with (at_builtin; (refine wpList_append_bd rfl BJ.out (.tmp 38) (.tmp 42) rfl rfl _ _ 2 _ (put16 window) rfl rfl S3.out (by omega) 16 (by omega) ?_); intro A_BK c_BK w_BK bd_BK; have BK := Lib.hid bd_BK; clear bd_BK)
      refine Calls.mono (put16I (sum) _) ?_
      rintro e w_BL ⟨X_BL, y_BL, rfl, o_BL, b_BL⟩
      have BL := Lib.hid (BK.out.call b_BL)
      have S4 := Lib.hid (RB.of_own o_BL)
      clear o_BL b_BL
      clear BJ BK
      go_wp2_with (at_builtin; (refine wpList_append_bd rfl BL.out (.tmp 44) (.tmp 46) rfl rfl _ _ 2 _ (put16 sum) rfl rfl S4.out (by omega) 18 (by omega) ?_); intro A_BM c_BM w_BM bd_BM; have BM := Lib.hid bd_BM; clear bd_BM; have k7 := K.cell (BM.out.row q.out (by omega)) 7 _ rfl)
      refine Calls.mono (put16I (urgent) _) ?_
      rintro e w_BN ⟨X_BN, y_BN, rfl, o_BN, b_BN⟩
      have BN := Lib.hid (BM.out.call b_BN)
      have S5 := Lib.hid (RB.of_own o_BN)
      clear o_BN b_BN
      clear BL BM k7
      go_wp2_with (first | (at_builtin; (refine wpList_append_bd rfl BN.out (.tmp 48) (.tmp 52) rfl rfl _ _ 2 _ (put16 urgent) rfl rfl S5.out (by omega) 20 (by omega) ?_); intro A_BO c_BO w_BO bd_BO; have BO := Lib.hid bd_BO; clear bd_BO; have k12 := K.cell (BO.out.row q.out (by omega)) 12 _ rfl) | (at_builtin; (refine wpList_append_bd rfl BO.out (.tmp 54) (.tmp 57) rfl rfl _ _ n _ (os) rfl HL.out (BO.out.rb HA.out (by omega)) (by omega) (20 + n) (by omega) ?_); intro A_BP c_BP w_BP bd_BP; have BP := Lib.hid bd_BP; clear bd_BP))
      clear k12
      go_ret
      exact encOut (by simp only [tcpH, HL.out, show (20 + (n : Int)) / 4 = 5 + (n : Int) / 4 by omega]) BP.out.len (BP.out.out HE.out (by omega))
set_option maxHeartbeats 8000000 in
theorem udpB (sport dport seq ack bits window urgent ty code rest : Int) (nosum : Bool) (A D : Option Addr) (n c m d : Nat) (os bs : List UInt8) (sum : Int) (w : World) (hr : RB w w.heap.size A os) (hl : os.length = n) (hs : RB w w.heap.size D bs) (hm : bs.length = m) (hn : n ≤ 40) (hm2 : m ≤ 1500) : Calls Try.prog 106 #[.agg #[.int .i64 2, .int .i64 sport, .int .i64 dport, .int .i64 seq, .int .i64 ack, .int .i64 bits, .int .i64 window, .int .i64 urgent, .int .i64 ty, .int .i64 code, .int .i64 rest, .bool nosum, .slice A n c, .slice D m d], .int .i64 sum] w (EncOut (udpH (Uh.mk 2 sport dport seq ack bits window urgent ty code rest nosum) m sum) w) := by
  have q : Hid ((w.alloc (.cells #[.int .i64 2, .int .i64 sport, .int .i64 dport, .int .i64 seq, .int .i64 ack, .int .i64 bits, .int .i64 window, .int .i64 urgent, .int .i64 ty, .int .i64 code, .int .i64 rest, .bool nosum, .slice A n c, .slice D m d] 111)).heap[w.heap.size]? = some (.cells #[.int .i64 2, .int .i64 sport, .int .i64 dport, .int .i64 seq, .int .i64 ack, .int .i64 bits, .int .i64 window, .int .i64 urgent, .int .i64 ty, .int .i64 code, .int .i64 rest, .bool nosum, .slice A n c, .slice D m d] 111)) := Lib.hid (K.new w _)
  have HA := Lib.hid ((hr.below (Joins.below_alloc1 w (.cells #[.int .i64 2, .int .i64 sport, .int .i64 dport, .int .i64 seq, .int .i64 ack, .int .i64 bits, .int .i64 window, .int .i64 urgent, .int .i64 ty, .int .i64 code, .int .i64 rest, .bool nosum, .slice A n c, .slice D m d] 111))))
  have HD := Lib.hid ((hs.below (Joins.below_alloc1 w (.cells #[.int .i64 2, .int .i64 sport, .int .i64 dport, .int .i64 seq, .int .i64 ack, .int .i64 bits, .int .i64 window, .int .i64 urgent, .int .i64 ty, .int .i64 code, .int .i64 rest, .bool nosum, .slice A n c, .slice D m d] 111))))
  have HE : Hid (Below w.heap.size w (w.alloc (.cells #[.int .i64 2, .int .i64 sport, .int .i64 dport, .int .i64 seq, .int .i64 ack, .int .i64 bits, .int .i64 window, .int .i64 urgent, .int .i64 ty, .int .i64 code, .int .i64 rest, .bool nosum, .slice A n c, .slice D m d] 111))) := Lib.hid (Joins.below_alloc1 w _)
  have HL := Lib.hid hl
  have HM := Lib.hid hm
  have hw : (w.alloc (.cells #[.int .i64 2, .int .i64 sport, .int .i64 dport, .int .i64 seq, .int .i64 ack, .int .i64 bits, .int .i64 window, .int .i64 urgent, .int .i64 ty, .int .i64 code, .int .i64 rest, .bool nosum, .slice A n c, .slice D m d] 111)).heap.size = w.heap.size + 1 := by simp
  try simp only at q HA HD HE hw
  clear hr hs hl hm
  go_enter Try.func106, Try.ntmps106
  go_wp2_with fail
  refine wp_region_owns (by kernel_rfl) 8 25 [(0, 6), (1, 7), (2, 8), (3, 9), (4, 10), (5, 11), (6, 12), (7, 13)] _ ([.val (.pointer (some ⟨w.heap.size, 0, none⟩)), .val (.pointer (some ⟨w.heap.size, 1, none⟩)), .val (.int .i64 sport), .own (w.heap.size + 1) 2 (put16 sport), .val (.pointer (some ⟨w.heap.size, 0, none⟩)), .val (.pointer (some ⟨w.heap.size, 2, none⟩)), .val (.int .i64 dport), .own (w.heap.size + 1) 2 (put16 dport)]) (by kernel_rfl) (by kernel_rfl) rfl rfl ?_ ?_
  · intro j o hj ho a' v K' hx hnd hB hK
    match j, hj, ho with
    | 0, _, ho =>
      obtain rfl := Option.some.inj ho
      have h0 : a'.eval (.tmp 2) = .pointer (some ⟨w.heap.size, 0, none⟩) := (hx 2 (by decide)).trans rfl
      exact u_fld_udp _ _ rfl h0 (hK _ _ rfl (Below.refl _ _))
    | 1, _, ho =>
      obtain rfl := Option.some.inj ho
      have h0 : a'.eval (.tmp 6) = .pointer (some ⟨w.heap.size, 0, none⟩) := (owns_of hnd 0 6 (by kernel_rfl) :)
      exact u_fldU1 _ _ rfl h0 (hK _ _ rfl (Below.refl _ _))
    | 2, _, ho =>
      obtain rfl := Option.some.inj ho
      have h0 : a'.eval (.tmp 7) = .pointer (some ⟨w.heap.size, 1, none⟩) := (owns_of hnd 1 7 (by kernel_rfl) :)
      exact u_int _ _ _ _ rfl h0 (K.cell (K.below hB q.out) 1 _ rfl) (hK _ _ rfl (Below.refl _ _))
    | 3, _, ho =>
      obtain rfl := Option.some.inj ho
      have h0 : a'.eval (.tmp 8) = .int .i64 sport := (owns_of hnd 2 8 (by kernel_rfl) :)
      refine u_p16I _ _ _ rfl h0 (Calls.mono (put16I _ v) ?_)
      rintro e' v' ⟨X, y, rfl, o6, b6⟩
      exact ⟨_, rfl, hK _ _ ⟨X, y, rfl, own_base o6 (by have := hB.size; simp at this; omega)⟩ b6⟩
    | 4, _, ho =>
      obtain rfl := Option.some.inj ho
      have h0 : a'.eval (.tmp 2) = .pointer (some ⟨w.heap.size, 0, none⟩) := (hx 2 (by decide)).trans rfl
      exact u_fld_udp _ _ rfl h0 (hK _ _ rfl (Below.refl _ _))
    | 5, _, ho =>
      obtain rfl := Option.some.inj ho
      have h0 : a'.eval (.tmp 10) = .pointer (some ⟨w.heap.size, 0, none⟩) := (owns_of hnd 4 10 (by kernel_rfl) :)
      exact u_fldU2 _ _ rfl h0 (hK _ _ rfl (Below.refl _ _))
    | 6, _, ho =>
      obtain rfl := Option.some.inj ho
      have h0 : a'.eval (.tmp 11) = .pointer (some ⟨w.heap.size, 2, none⟩) := (owns_of hnd 5 11 (by kernel_rfl) :)
      exact u_int _ _ _ _ rfl h0 (K.cell (K.below hB q.out) 2 _ rfl) (hK _ _ rfl (Below.refl _ _))
    | 7, _, ho =>
      obtain rfl := Option.some.inj ho
      have h0 : a'.eval (.tmp 12) = .int .i64 dport := (owns_of hnd 6 12 (by kernel_rfl) :)
      refine u_p16I _ _ _ rfl h0 (Calls.mono (put16I _ v) ?_)
      rintro e' v' ⟨X, y, rfl, o6, b6⟩
      exact ⟨_, rfl, hK _ _ ⟨X, y, rfl, own_base o6 (by have := hB.size; simp at this; omega)⟩ b6⟩
    | j + 8, hj, _ => omega
  · intro f v hf hB
    have e0 : f 0 = (.pointer (some ⟨w.heap.size, 0, none⟩)) := hf (0, 6) (by decide)
    have e1 : f 1 = (.pointer (some ⟨w.heap.size, 1, none⟩)) := hf (1, 7) (by decide)
    have e2 : f 2 = (.int .i64 sport) := hf (2, 8) (by decide)
    obtain ⟨X9, y9, e3, r3⟩ := hf (3, 9) (by decide)
    have R9 := Lib.hid r3
    clear r3
    have e4 : f 4 = (.pointer (some ⟨w.heap.size, 0, none⟩)) := hf (4, 10) (by decide)
    have e5 : f 5 = (.pointer (some ⟨w.heap.size, 2, none⟩)) := hf (5, 11) (by decide)
    have e6 : f 6 = (.int .i64 dport) := hf (6, 12) (by decide)
    obtain ⟨X13, y13, e7, r7⟩ := hf (7, 13) (by decide)
    have R13 := Lib.hid r7
    clear r7
    simp only [List.foldl_cons, List.foldl_nil, List.drop_succ_cons, List.drop_zero, e0, e1, e2, e3, e4, e5, e6, e7]
    clear e0 e1 e2 e3 e4 e5 e6 e7 hf
    go_simp
    have BA : Hid (Bd (w.alloc (.cells #[.int .i64 2, .int .i64 sport, .int .i64 dport, .int .i64 seq, .int .i64 ack, .int .i64 bits, .int .i64 window, .int .i64 urgent, .int .i64 ty, .int .i64 code, .int .i64 rest, .bool nosum, .slice A n c, .slice D m d] 111)) (w.heap.size + 1) v X9 2 y9 (put16 sport)) := Lib.hid ⟨R9.out, hB.mono (by simp), by have := hB.size; simp at this; omega, rfl⟩
    clear hB
    refine wpList_append_bd rfl BA.out (.tmp 9) (.tmp 13) rfl rfl _ _ 2 _ (put16 dport) rfl rfl (RB.of_own R13.out) (by omega) 4 (by omega) ?_
    intro A_BB c_BB w_BB bd_BB
    have BB := Lib.hid bd_BB
    clear bd_BB
    have QB := Lib.hid (BB.out.row q.out (by omega))
    clear R9 R13 BA
    go_wp2_with (with_reducible refine loadU rfl _ rfl w.heap.size rfl QB.out ?_)
    refine Calls.mono (implUpSize (Uh.mk 2 sport dport seq ack bits window urgent ty code rest nosum) A D n c m d _ (by omega) (by omega)) ?_
    rintro e w_BC ⟨rfl, b_BC⟩
    have BC := Lib.hid (BB.out.call b_BC)
    clear b_BC BB QB
    simp only [show Uh.size (Uh.mk 2 sport dport seq ack bits window urgent ty code rest nosum) n m = 8 + (m : Int) from rfl]
    go_wp2_with fail
    refine Calls.mono (put16I (8 + (m : Int)) _) ?_
    rintro e w_BE ⟨X_BE, y_BE, rfl, o_BE, b_BE⟩
    have BE := Lib.hid (BC.out.call b_BE)
    have S1 := Lib.hid (RB.of_own o_BE)
    clear o_BE b_BE
    clear BC
    go_wp2_with (at_builtin; (refine wpList_append_bd rfl BE.out (.tmp 15) (.tmp 19) rfl rfl _ _ 2 _ (put16 (8 + (m : Int))) rfl rfl S1.out (by omega) 6 (by omega) ?_); intro A_BF c_BF w_BF bd_BF; have BF := Lib.hid bd_BF; clear bd_BF)
    refine Calls.mono (put16I (sum) _) ?_
    rintro e w_BG ⟨X_BG, y_BG, rfl, o_BG, b_BG⟩
    have BG := Lib.hid (BF.out.call b_BG)
    have S2 := Lib.hid (RB.of_own o_BG)
    clear o_BG b_BG
    clear BE BF
    go_wp2_with (at_builtin; (refine wpList_append_bd rfl BG.out (.tmp 21) (.tmp 23) rfl rfl _ _ 2 _ (put16 sum) rfl rfl S2.out (by omega) 8 (by omega) ?_); intro A_BH c_BH w_BH bd_BH; have BH := Lib.hid bd_BH; clear bd_BH)
    go_ret
    exact encOut (by simp only [udpH]) BH.out.len (BH.out.out HE.out (by omega))
set_option maxHeartbeats 8000000 in
theorem icmpB (sport dport seq ack bits window urgent ty code rest : Int) (nosum : Bool) (A D : Option Addr) (n c m d : Nat) (os bs : List UInt8) (sum : Int) (w : World) (hr : RB w w.heap.size A os) (hl : os.length = n) (hs : RB w w.heap.size D bs) (hm : bs.length = m) (_hn : n ≤ 40) (_hm2 : m ≤ 1500) (h8 : 0 ≤ ty ∧ ty ≤ 255) (h9 : 0 ≤ code ∧ code ≤ 255) : Calls Try.prog 107 #[.agg #[.int .i64 3, .int .i64 sport, .int .i64 dport, .int .i64 seq, .int .i64 ack, .int .i64 bits, .int .i64 window, .int .i64 urgent, .int .i64 ty, .int .i64 code, .int .i64 rest, .bool nosum, .slice A n c, .slice D m d], .int .i64 sum] w (EncOut (icmpH (Uh.mk 3 sport dport seq ack bits window urgent ty code rest nosum) sum) w) := by
  have q : Hid ((w.alloc (.cells #[.int .i64 3, .int .i64 sport, .int .i64 dport, .int .i64 seq, .int .i64 ack, .int .i64 bits, .int .i64 window, .int .i64 urgent, .int .i64 ty, .int .i64 code, .int .i64 rest, .bool nosum, .slice A n c, .slice D m d] 112)).heap[w.heap.size]? = some (.cells #[.int .i64 3, .int .i64 sport, .int .i64 dport, .int .i64 seq, .int .i64 ack, .int .i64 bits, .int .i64 window, .int .i64 urgent, .int .i64 ty, .int .i64 code, .int .i64 rest, .bool nosum, .slice A n c, .slice D m d] 112)) := Lib.hid (K.new w _)
  have HA := Lib.hid ((hr.below (Joins.below_alloc1 w (.cells #[.int .i64 3, .int .i64 sport, .int .i64 dport, .int .i64 seq, .int .i64 ack, .int .i64 bits, .int .i64 window, .int .i64 urgent, .int .i64 ty, .int .i64 code, .int .i64 rest, .bool nosum, .slice A n c, .slice D m d] 112))))
  have HD := Lib.hid ((hs.below (Joins.below_alloc1 w (.cells #[.int .i64 3, .int .i64 sport, .int .i64 dport, .int .i64 seq, .int .i64 ack, .int .i64 bits, .int .i64 window, .int .i64 urgent, .int .i64 ty, .int .i64 code, .int .i64 rest, .bool nosum, .slice A n c, .slice D m d] 112))))
  have HE : Hid (Below w.heap.size w (w.alloc (.cells #[.int .i64 3, .int .i64 sport, .int .i64 dport, .int .i64 seq, .int .i64 ack, .int .i64 bits, .int .i64 window, .int .i64 urgent, .int .i64 ty, .int .i64 code, .int .i64 rest, .bool nosum, .slice A n c, .slice D m d] 112))) := Lib.hid (Joins.below_alloc1 w _)
  have HL := Lib.hid hl
  have HM := Lib.hid hm
  have hw : (w.alloc (.cells #[.int .i64 3, .int .i64 sport, .int .i64 dport, .int .i64 seq, .int .i64 ack, .int .i64 bits, .int .i64 window, .int .i64 urgent, .int .i64 ty, .int .i64 code, .int .i64 rest, .bool nosum, .slice A n c, .slice D m d] 112)).heap.size = w.heap.size + 1 := by simp
  try simp only at q HA HD HE hw
  clear hr hs hl hm
  go_enter Try.func107, Try.ntmps107
  go_wp2_with fail
  refine wp_region_owns (by kernel_rfl) 11 24 [(0, 6), (1, 7), (2, 8), (3, 9), (4, 10), (5, 11), (6, 12), (7, 13), (8, 14), (9, 15), (10, 16)] _ ([.val (.pointer (some ⟨w.heap.size, 0, none⟩)), .val (.pointer (some ⟨w.heap.size, 8, none⟩)), .val (.int .i64 ty), .val (.int .u8 ty), .val (.pointer (some ⟨w.heap.size, 0, none⟩)), .val (.pointer (some ⟨w.heap.size, 9, none⟩)), .val (.int .i64 code), .val (.int .u8 code), .own (w.heap.size + 1) 2 [byteOf ty, byteOf code], .val (.int .i64 sum), .own (w.heap.size + 1) 2 (put16 sum)]) (by kernel_rfl) (by kernel_rfl) rfl rfl ?_ ?_
  · intro j o hj ho a' v K' hx hnd hB hK
    match j, hj, ho with
    | 0, _, ho =>
      obtain rfl := Option.some.inj ho
      have h0 : a'.eval (.tmp 2) = .pointer (some ⟨w.heap.size, 0, none⟩) := (hx 2 (by decide)).trans rfl
      exact u_fld_icmp _ _ rfl h0 (hK _ _ rfl (Below.refl _ _))
    | 1, _, ho =>
      obtain rfl := Option.some.inj ho
      have h0 : a'.eval (.tmp 6) = .pointer (some ⟨w.heap.size, 0, none⟩) := (owns_of hnd 0 6 (by kernel_rfl) :)
      exact u_fldU8 _ _ rfl h0 (hK _ _ rfl (Below.refl _ _))
    | 2, _, ho =>
      obtain rfl := Option.some.inj ho
      have h0 : a'.eval (.tmp 7) = .pointer (some ⟨w.heap.size, 8, none⟩) := (owns_of hnd 1 7 (by kernel_rfl) :)
      exact u_int _ _ _ _ rfl h0 (K.cell (K.below hB q.out) 8 _ rfl) (hK _ _ rfl (Below.refl _ _))
    | 3, _, ho =>
      obtain rfl := Option.some.inj ho
      have h0 : a'.eval (.tmp 8) = .int .i64 ty := (owns_of hnd 2 8 (by kernel_rfl) :)
      exact u_byte _ _ rfl h0 h8.1 h8.2 (hK _ _ rfl (Below.refl _ _))
    | 4, _, ho =>
      obtain rfl := Option.some.inj ho
      have h0 : a'.eval (.tmp 2) = .pointer (some ⟨w.heap.size, 0, none⟩) := (hx 2 (by decide)).trans rfl
      exact u_fld_icmp _ _ rfl h0 (hK _ _ rfl (Below.refl _ _))
    | 5, _, ho =>
      obtain rfl := Option.some.inj ho
      have h0 : a'.eval (.tmp 10) = .pointer (some ⟨w.heap.size, 0, none⟩) := (owns_of hnd 4 10 (by kernel_rfl) :)
      exact u_fldU9 _ _ rfl h0 (hK _ _ rfl (Below.refl _ _))
    | 6, _, ho =>
      obtain rfl := Option.some.inj ho
      have h0 : a'.eval (.tmp 11) = .pointer (some ⟨w.heap.size, 9, none⟩) := (owns_of hnd 5 11 (by kernel_rfl) :)
      exact u_int _ _ _ _ rfl h0 (K.cell (K.below hB q.out) 9 _ rfl) (hK _ _ rfl (Below.refl _ _))
    | 7, _, ho =>
      obtain rfl := Option.some.inj ho
      have h0 : a'.eval (.tmp 12) = .int .i64 code := (owns_of hnd 6 12 (by kernel_rfl) :)
      exact u_byte _ _ rfl h0 h9.1 h9.2 (hK _ _ rfl (Below.refl _ _))
    | 8, _, ho =>
      obtain rfl := Option.some.inj ho
      have h0 : a'.eval (.tmp 9) = .int .u8 ty := (owns_of hnd 3 9 (by kernel_rfl) :)
      have h1 : a'.eval (.tmp 13) = .int .u8 code := (owns_of hnd 7 13 (by kernel_rfl) :)
      exact u_twoO (w.heap.size + 1) _ _ _ _ rfl h0 h1 ⟨h8.1, by omega⟩ ⟨h9.1, by omega⟩ (by have := hB.size; simp at this; omega) hK
    | 9, _, ho =>
      obtain rfl := Option.some.inj ho
      have h0 : a'.eval (.tmp 1) = .int .i64 sum := (hx 1 (by decide)).trans rfl
      exact u_move _ _ rfl h0 (hK _ _ rfl (Below.refl _ _))
    | 10, _, ho =>
      obtain rfl := Option.some.inj ho
      have h0 : a'.eval (.tmp 15) = .int .i64 sum := (owns_of hnd 9 15 (by kernel_rfl) :)
      refine u_p16I _ _ _ rfl h0 (Calls.mono (put16I _ v) ?_)
      rintro e' v' ⟨X, y, rfl, o6, b6⟩
      exact ⟨_, rfl, hK _ _ ⟨X, y, rfl, own_base o6 (by have := hB.size; simp at this; omega)⟩ b6⟩
    | j + 11, hj, _ => omega
  · intro f v hf hB
    have e0 : f 0 = (.pointer (some ⟨w.heap.size, 0, none⟩)) := hf (0, 6) (by decide)
    have e1 : f 1 = (.pointer (some ⟨w.heap.size, 8, none⟩)) := hf (1, 7) (by decide)
    have e2 : f 2 = (.int .i64 ty) := hf (2, 8) (by decide)
    have e3 : f 3 = (.int .u8 ty) := hf (3, 9) (by decide)
    have e4 : f 4 = (.pointer (some ⟨w.heap.size, 0, none⟩)) := hf (4, 10) (by decide)
    have e5 : f 5 = (.pointer (some ⟨w.heap.size, 9, none⟩)) := hf (5, 11) (by decide)
    have e6 : f 6 = (.int .i64 code) := hf (6, 12) (by decide)
    have e7 : f 7 = (.int .u8 code) := hf (7, 13) (by decide)
    obtain ⟨X14, y14, e8, r8⟩ := hf (8, 14) (by decide)
    have R14 := Lib.hid r8
    clear r8
    have e9 : f 9 = (.int .i64 sum) := hf (9, 15) (by decide)
    obtain ⟨X16, y16, e10, r10⟩ := hf (10, 16) (by decide)
    have R16 := Lib.hid r10
    clear r10
    simp only [List.foldl_cons, List.foldl_nil, List.drop_succ_cons, List.drop_zero, e0, e1, e2, e3, e4, e5, e6, e7, e8, e9, e10]
    clear e0 e1 e2 e3 e4 e5 e6 e7 e8 e9 e10 hf
    go_simp
    have BA : Hid (Bd (w.alloc (.cells #[.int .i64 3, .int .i64 sport, .int .i64 dport, .int .i64 seq, .int .i64 ack, .int .i64 bits, .int .i64 window, .int .i64 urgent, .int .i64 ty, .int .i64 code, .int .i64 rest, .bool nosum, .slice A n c, .slice D m d] 112)) (w.heap.size + 1) v X14 2 y14 [byteOf ty, byteOf code]) := Lib.hid ⟨R14.out, hB.mono (by simp), by have := hB.size; simp at this; omega, rfl⟩
    clear hB
    refine wpList_append_bd rfl BA.out (.tmp 14) (.tmp 16) rfl rfl _ _ 2 _ (put16 sum) rfl rfl (RB.of_own R16.out) (by omega) 4 (by omega) ?_
    intro A_BB c_BB w_BB bd_BB
    have BB := Lib.hid bd_BB
    clear bd_BB
    have k10 := K.cell (BB.out.row q.out (by omega)) 10 _ rfl
    clear R14 R16 BA
    go_wp2_with fail
    refine Calls.mono (put32J (rest) _) ?_
    rintro e w_BC ⟨X_BC, y_BC, rfl, o_BC, b_BC⟩
    have BC := Lib.hid (BB.out.call b_BC)
    have S1 := Lib.hid (RB.of_own o_BC)
    clear o_BC b_BC
    clear k10 BB
    go_wp2_with (at_builtin; (refine wpList_append_bd rfl BC.out (.tmp 18) (.tmp 22) rfl rfl _ _ 4 _ (put32 rest) rfl rfl S1.out (by omega) 8 (by omega) ?_); intro A_BE c_BE w_BE bd_BE; have BE := Lib.hid bd_BE; clear bd_BE)
    go_ret
    exact encOut (by simp only [icmpH]) BE.out.len (BE.out.out HE.out (by omega))
end Go.Proofs.Ythogonpjkngpjaa
