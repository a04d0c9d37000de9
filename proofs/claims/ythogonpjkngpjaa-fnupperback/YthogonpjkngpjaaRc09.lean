/-
  Single operations of a region, each by what it leaves: moves, sums, loads of one cell, a slice of two bytes. Pairs of addresses and the sum of the pseudo header, in the program and in the model. A region that draws its order, with a chain of operations in forced order: what an operation left in its slot may change from one link of the chain to the next. Plain: any program. A region that draws its order whose operations leave values, but for a chain of stores; what holds behind each link is asked. Plain: any program.
-/
import Derived.Test.YthogonpjkngpjaaRc04
import Derived.Test.YthogonpjkngpjaaRc08
import Derived.Test.YthogonpjkngpjaaRc03
import Derived.Deep.Cut
import Derived.Test.YthogonpjkngpjaaRc01
namespace Go.Proofs.Ythogonpjkngpjaa
set_option maxRecDepth 100000
open Go.RowKit
section
variable {o : Oper} {a : Act} {w : World} {K : Act → World → Prop} {Q : Exit → Act → World → Prop}
theorem u_move (x : Operand) (v : Value) (ho : o.op = .move x) (hx : a.eval x = v) (hK : K (a.put o.dst v) w) : o.wp Try.prog a w K Q := by
  unfold Oper.wp execOp
  simp only [ho, hx]
  go_simp
  exact hK
theorem u_lenB (x : Operand) (A : Option Addr) (n c : Nat) (ho : o.op = .call { callee := .builtin .len, args := #[x], argTypes := #[34] }) (hx : a.eval x = .slice A n c) (hK : K (a.put o.dst (.int .i64 (n : Int))) w) : o.wp Try.prog a w K Q := by
  unfold Oper.wp execOp
  simp only [ho, resolve, invoke, builtin, List.map_toArray, List.map_cons, List.map_nil, hx]
  go_simp
  exact hK
theorem u_add (x y : Operand) (m n : Int) (ho : o.op = .binOp .add 3 x y 3) (hx : a.eval x = .int .i64 m) (hy : a.eval y = .int .i64 n) (h0 : -4611686018427387904 ≤ m) (h1 : m ≤ 4611686018427387904) (h2 : -4611686018427387904 < n) (h3 : n < 4611686018427387904) (hK : K (a.put o.dst (.int .i64 (m + n))) w) : o.wp Try.prog a w K Q := by
  unfold Oper.wp execOp
  simp only [ho, hx, hy]
  go_simp
  rw [show IntKind.i64.wrap (m + n) = m + n by rw [IntKind.wrap_i64]; omega]
  exact hK
theorem u_byte (x : Operand) (m : Int) (ho : o.op = .convert 3 5 x) (hx : a.eval x = .int .i64 m) (h0 : 0 ≤ m) (h1 : m ≤ 255) (hK : K (a.put o.dst (.int .u8 m)) w) : o.wp Try.prog a w K Q := by
  unfold Oper.wp execOp
  simp only [ho, hx]
  go_simp
  rw [show IntKind.u8.wrap m = m by rw [IntKind.wrap_u8]; omega]
  exact hK
theorem u_int (x : Operand) (g j : Nat) (v : Value) (ho : o.op = .load 3 x) (hx : a.eval x = .pointer (some ⟨g, j, none⟩)) (hc : w.cell? ⟨g, j, none⟩ = some v) (hK : K (a.put o.dst v) w) : o.wp Try.prog a w K Q := by
  unfold Oper.wp execOp
  simp only [ho, hx]
  go_simp
  exact hK
theorem u_bytes (x : Operand) (g j : Nat) (v : Value) (ho : o.op = .load 34 x) (hx : a.eval x = .pointer (some ⟨g, j, none⟩)) (hc : w.cell? ⟨g, j, none⟩ = some v) (hK : K (a.put o.dst v) w) : o.wp Try.prog a w K Q := by
  unfold Oper.wp execOp
  simp only [ho, hx]
  go_simp
  exact hK
end
end Go.Proofs.Ythogonpjkngpjaa

namespace Go.Proofs.Ythogonpjkngpjaa
set_option maxRecDepth 100000
open Go.RowKit
theorem info_addrP : (Try.prog.info? 27).map (·.size) = some 5 := by kernel_rfl
theorem loadA {ops : Array Oper} {rest : List Oper} {o : Oper} {a : Act} {w : World} {Q : Exit → Act → World → Prop} (hgd : o.guard = none) (x : Operand) (ho : o.op = .load 27 x) (g : Nat) (hx : a.eval x = .pointer (some ⟨g, 0, none⟩)) {t : TypeId} {v0 v1 v2 v3 v4 : Value}
    (hg : w.heap[g]? = some (.cells #[v0, v1, v2, v3, v4] t (0, 0))) (h : wpList Try.prog ops Q rest (a.put o.dst (.agg #[v0, v1, v2, v3, v4])) w) : wpList Try.prog ops Q (o :: rest) a w :=
  wpList_load_row hgd 27 x ho g hx t _ (0, 0) _ hg Try.underlying27 rfl info_addrP h
theorem implOkB (x : Ad) (b : Bool) (h : x.ok = b) (w : World) : Calls Try.prog 85 #[.agg #[.int .i64 x.k, .int .i64 x.a, .int .i64 x.b, .int .i64 x.c, .int .i64 x.d]] w fun e w' => e = .returned (.bool b) ∧ Below w.heap.size w w' := h ▸ implAddrOk x w
theorem specOkB (x : Ad) (b : Bool) (h : x.ok = b) (w : World) : Calls Try.prog 80 #[.agg #[.int .i64 x.k, .int .i64 x.a, .int .i64 x.b, .int .i64 x.c, .int .i64 x.d]] w fun e w' => e = .returned (.bool b) ∧ Below w.heap.size w w' := h ▸ specAddrOk x w
theorem Ad.len4 {x : Ad} (h : x.ok = true) (k : x.k = 4) : x.bytes.length = 4 := by simp [Ad.bytes, h, k, put32]
theorem Ad.len6 {x : Ad} (h : x.ok = true) (k : ¬ x.k = 4) : x.bytes.length = 16 := by simp [Ad.bytes, h, k, Ad.whole_length]
theorem rb_lit2 (w : World) (p : Int) (hp : 0 ≤ p ∧ p ≤ 255) : RB (w.alloc (.cells #[.int .u8 0, .int .u8 p] 5)) (w.heap.size + 1) (some ⟨w.heap.size, 0, none⟩) [0, byteOf p] := by
  have h := RB.new w 5 [0, byteOf p]
  have e : (cellsOf [0, byteOf p]).toArray = #[.int .u8 0, .int .u8 p] := by simp [cellsOf, byteOf_val, Int.emod_eq_of_lt hp.1 (show p < 256 by omega)]
  rwa [e] at h
theorem rb_lit4 (w : World) (p : Int) (hp : 0 ≤ p ∧ p ≤ 255) : RB (w.alloc (.cells #[.int .u8 0, .int .u8 0, .int .u8 0, .int .u8 p] 5)) (w.heap.size + 1) (some ⟨w.heap.size, 0, none⟩) [0, 0, 0, byteOf p] := by
  have h := RB.new w 5 [0, 0, 0, byteOf p]
  have e : (cellsOf [0, 0, 0, byteOf p]).toArray = #[.int .u8 0, .int .u8 0, .int .u8 0, .int .u8 p] := by simp [cellsOf, byteOf_val, Int.emod_eq_of_lt hp.1 (show p < 256 by omega)]
  rwa [e] at h
section
variable {o : Oper} {a : Act} {w : World} {K : Act → World → Prop} {Q : Exit → Act → World → Prop}
theorem u_addrBytesI (x : Operand) (x0 : Value) (ts : Array TypeId) (ho : o.op = .call { callee := .value (.func 77), args := #[x], argTypes := ts }) (h0 : a.eval x = x0)
    (h : Calls Try.prog 77 #[x0] w fun e w' => ∃ v, e = .returned v ∧ K (a.put o.dst v) w') : o.wp Try.prog a w K Q := by
  unfold Oper.wp execOp
  simp only [ho, resolve, List.map_toArray, List.map_cons, List.map_nil, h0, show ∀ f, a.eval (.func f) = .func (.func f) #[] #[] from fun _ => rfl]
  go_simp
  exact h.mono fun e w' ⟨u, he, hk⟩ => by subst he; exact hk
theorem u_addrBytesS (x : Operand) (x0 : Value) (ts : Array TypeId) (ho : o.op = .call { callee := .value (.func 98), args := #[x], argTypes := ts }) (h0 : a.eval x = x0)
    (h : Calls Try.prog 98 #[x0] w fun e w' => ∃ v, e = .returned v ∧ K (a.put o.dst v) w') : o.wp Try.prog a w K Q := by
  unfold Oper.wp execOp
  simp only [ho, resolve, List.map_toArray, List.map_cons, List.map_nil, h0, show ∀ f, a.eval (.func f) = .func (.func f) #[] #[] from fun _ => rfl]
  go_simp
  exact h.mono fun e w' ⟨u, he, hk⟩ => by subst he; exact hk
end
set_option maxHeartbeats 2000000 in
theorem pairI (x y : Ad) (w : World) : Calls Try.prog 40 #[.agg #[.int .i64 x.k, .int .i64 x.a, .int .i64 x.b, .int .i64 x.c, .int .i64 x.d], .agg #[.int .i64 y.k, .int .i64 y.a, .int .i64 y.b, .int .i64 y.c, .int .i64 y.d]] w fun e w' => e = .returned (.bool (pairA x y)) ∧ Below w.heap.size w w' := by
  have q0 : Hid (((w.alloc (.cells #[.int .i64 x.k, .int .i64 x.a, .int .i64 x.b, .int .i64 x.c, .int .i64 x.d] 27)).alloc (.cells #[.int .i64 y.k, .int .i64 y.a, .int .i64 y.b, .int .i64 y.c, .int .i64 y.d] 27)).heap[w.heap.size]? = some (.cells #[.int .i64 x.k, .int .i64 x.a, .int .i64 x.b, .int .i64 x.c, .int .i64 x.d] 27)) := Lib.hid (by repeat (first | exact K.newAt (by first | rfl | (simp; done)) | refine K.oldAt (by first | (simp; done) | (simp; omega)) ?_))
  have q1 : Hid (((w.alloc (.cells #[.int .i64 x.k, .int .i64 x.a, .int .i64 x.b, .int .i64 x.c, .int .i64 x.d] 27)).alloc (.cells #[.int .i64 y.k, .int .i64 y.a, .int .i64 y.b, .int .i64 y.c, .int .i64 y.d] 27)).heap[w.heap.size + 1]? = some (.cells #[.int .i64 y.k, .int .i64 y.a, .int .i64 y.b, .int .i64 y.c, .int .i64 y.d] 27)) := Lib.hid (by repeat (first | exact K.newAt (by first | rfl | (simp; done)) | refine K.oldAt (by first | (simp; done) | (simp; omega)) ?_))
  cases hx : x.ok with
  | false =>
    have HX := Lib.hid hx
    have HR := Lib.hid (show pairA x y = false by simp [pairA, hx])
    clear hx
    go_enter Try.func40, Try.ntmps40
    go_wp2_with (with_reducible refine loadA rfl _ rfl w.heap.size rfl q0.out ?_)
    refine Calls.mono (implOkB x false HX.out _) ?_
    rintro e w1 ⟨rfl, b1⟩
    have B1 := Lib.hid (bthen (Joins.below_alloc2 w _ _) b1)
    clear b1
    go_wp2
    go_ret
    exact ⟨ret_bool HR.out.symm, B1.out⟩
  | true =>
    cases hy : y.ok with
    | false =>
      have HX := Lib.hid hx
      have HY := Lib.hid hy
      have HR := Lib.hid (show pairA x y = false by simp [pairA, hy])
      clear hx hy
      go_enter Try.func40, Try.ntmps40
      go_wp2_with (with_reducible refine loadA rfl _ rfl w.heap.size rfl q0.out ?_)
      refine Calls.mono (implOkB x true HX.out _) ?_
      rintro e w1 ⟨rfl, b1⟩
      have B1 := Lib.hid (bthen (Joins.below_alloc2 w _ _) b1)
      have q2 := Lib.hid (K.below b1 q1.out)
      clear b1
      have c := K.row5 q2.out
      obtain ⟨c0, c1, c2, c3, c4⟩ := c
      go_wp2_with fail
      refine Calls.mono (implOkB y false HY.out _) ?_
      rintro e w2 ⟨rfl, b2⟩
      have B2 := Lib.hid (bthen B1.out b2)
      clear b2 c0 c1 c2 c3 c4
      go_wp2
      go_ret
      exact ⟨ret_bool HR.out.symm, B2.out⟩
    | true =>
      have HX := Lib.hid hx
      have HY := Lib.hid hy
      have HR := Lib.hid (show pairA x y = decide (x.k = y.k) by simp [pairA, hx, hy])
      clear hx hy
      go_enter Try.func40, Try.ntmps40
      go_wp2_with (with_reducible refine loadA rfl _ rfl w.heap.size rfl q0.out ?_)
      refine Calls.mono (implOkB x true HX.out _) ?_
      rintro e w1 ⟨rfl, b1⟩
      have B1 := Lib.hid (bthen (Joins.below_alloc2 w _ _) b1)
      have q2 := Lib.hid (K.below b1 q1.out)
      have p2 := Lib.hid (K.below b1 q0.out)
      clear b1
      obtain ⟨c0, c1, c2, c3, c4⟩ := K.row5 q2.out
      go_wp2_with fail
      refine Calls.mono (implOkB y true HY.out _) ?_
      rintro e w2 ⟨rfl, b2⟩
      have B2 := Lib.hid (bthen B1.out b2)
      have d0 := K.cell (K.below b2 q2.out) 0 _ rfl
      have d1 := K.cell (K.below b2 p2.out) 0 _ rfl
      clear b2 c0 c1 c2 c3 c4
      go_wp2
      go_ret
      exact ⟨ret_bool (by rw [HR.out]; rfl), B2.out⟩
set_option maxHeartbeats 2000000 in
theorem pairS (x y : Ad) (w : World) : Calls Try.prog 38 #[.agg #[.int .i64 x.k, .int .i64 x.a, .int .i64 x.b, .int .i64 x.c, .int .i64 x.d], .agg #[.int .i64 y.k, .int .i64 y.a, .int .i64 y.b, .int .i64 y.c, .int .i64 y.d]] w fun e w' => e = .returned (.bool (pairA x y)) ∧ Below w.heap.size w w' := by
  have q0 : Hid (((w.alloc (.cells #[.int .i64 x.k, .int .i64 x.a, .int .i64 x.b, .int .i64 x.c, .int .i64 x.d] 27)).alloc (.cells #[.int .i64 y.k, .int .i64 y.a, .int .i64 y.b, .int .i64 y.c, .int .i64 y.d] 27)).heap[w.heap.size]? = some (.cells #[.int .i64 x.k, .int .i64 x.a, .int .i64 x.b, .int .i64 x.c, .int .i64 x.d] 27)) := Lib.hid (by repeat (first | exact K.newAt (by first | rfl | (simp; done)) | refine K.oldAt (by first | (simp; done) | (simp; omega)) ?_))
  have q1 : Hid (((w.alloc (.cells #[.int .i64 x.k, .int .i64 x.a, .int .i64 x.b, .int .i64 x.c, .int .i64 x.d] 27)).alloc (.cells #[.int .i64 y.k, .int .i64 y.a, .int .i64 y.b, .int .i64 y.c, .int .i64 y.d] 27)).heap[w.heap.size + 1]? = some (.cells #[.int .i64 y.k, .int .i64 y.a, .int .i64 y.b, .int .i64 y.c, .int .i64 y.d] 27)) := Lib.hid (by repeat (first | exact K.newAt (by first | rfl | (simp; done)) | refine K.oldAt (by first | (simp; done) | (simp; omega)) ?_))
  cases hx : x.ok with
  | false =>
    have HX := Lib.hid hx
    have HR := Lib.hid (show pairA x y = false by simp [pairA, hx])
    clear hx
    go_enter Try.func38, Try.ntmps38
    go_wp2_with (with_reducible refine loadA rfl _ rfl w.heap.size rfl q0.out ?_)
    refine Calls.mono (specOkB x false HX.out _) ?_
    rintro e w1 ⟨rfl, b1⟩
    have B1 := Lib.hid (bthen (Joins.below_alloc2 w _ _) b1)
    clear b1
    go_wp2
    go_ret
    exact ⟨ret_bool HR.out.symm, B1.out⟩
  | true =>
    cases hy : y.ok with
    | false =>
      have HX := Lib.hid hx
      have HY := Lib.hid hy
      have HR := Lib.hid (show pairA x y = false by simp [pairA, hy])
      clear hx hy
      go_enter Try.func38, Try.ntmps38
      go_wp2_with (with_reducible refine loadA rfl _ rfl w.heap.size rfl q0.out ?_)
      refine Calls.mono (specOkB x true HX.out _) ?_
      rintro e w1 ⟨rfl, b1⟩
      have B1 := Lib.hid (bthen (Joins.below_alloc2 w _ _) b1)
      have q2 := Lib.hid (K.below b1 q1.out)
      clear b1
      have c := K.row5 q2.out
      obtain ⟨c0, c1, c2, c3, c4⟩ := c
      go_wp2_with fail
      refine Calls.mono (specOkB y false HY.out _) ?_
      rintro e w2 ⟨rfl, b2⟩
      have B2 := Lib.hid (bthen B1.out b2)
      clear b2 c0 c1 c2 c3 c4
      go_wp2
      go_ret
      exact ⟨ret_bool HR.out.symm, B2.out⟩
    | true =>
      have HX := Lib.hid hx
      have HY := Lib.hid hy
      have HR := Lib.hid (show pairA x y = decide (x.k = y.k) by simp [pairA, hx, hy])
      clear hx hy
      go_enter Try.func38, Try.ntmps38
      go_wp2_with (with_reducible refine loadA rfl _ rfl w.heap.size rfl q0.out ?_)
      refine Calls.mono (specOkB x true HX.out _) ?_
      rintro e w1 ⟨rfl, b1⟩
      have B1 := Lib.hid (bthen (Joins.below_alloc2 w _ _) b1)
      have q2 := Lib.hid (K.below b1 q1.out)
      have p2 := Lib.hid (K.below b1 q0.out)
      clear b1
      obtain ⟨c0, c1, c2, c3, c4⟩ := K.row5 q2.out
      go_wp2_with fail
      refine Calls.mono (specOkB y true HY.out _) ?_
      rintro e w2 ⟨rfl, b2⟩
      have B2 := Lib.hid (bthen B1.out b2)
      have d0 := K.cell (K.below b2 q2.out) 0 _ rfl
      have d1 := K.cell (K.below b2 p2.out) 0 _ rfl
      clear b2 c0 c1 c2 c3 c4
      go_wp2
      go_ret
      exact ⟨ret_bool (by rw [HR.out]; rfl), B2.out⟩
end Go.Proofs.Ythogonpjkngpjaa

namespace Go.Proofs.Ythogonpjkngpjaa
set_option maxRecDepth 100000
open Go.RowKit
section
variable {P : Program} {ops : Array Oper} {Q : Exit → Act → World → Prop}
structure KeptT (ops : Array Oper) (Γ : Nat → Nat → World → Value → Prop) (ch : List Nat) (I : Nat → World → Prop) (n : Nat) (a0 : Act) (listed : Array Bool) (a : Act) (w : World) : Prop where
  size : listed.size = ops.size
  len : a.tmps.size = n
  defers : a.defers = a0.defers
  keep : ∀ t, (∀ (j : Nat) o, ops[j]? = some o → o.dst ≠ some t) → a.tmps.getD t undef = a0.tmps.getD t undef
  inv : ∃ m, (∀ (i j : Nat), ch[i]? = some j → (listed.getD j false = true ↔ i < m)) ∧ m ≤ ch.length ∧ I m w ∧ (∀ (j : Nat) o d, ops[j]? = some o → o.dst = some d → listed.getD j false = true → Γ j m w (a.tmps.getD d undef))
theorem wpAny_stage2 {Γ : Nat → Nat → World → Value → Prop} {out ch : List Nat} {I : Nat → World → Prop} {n : Nat} {a0 : Act} (hf : formB ops n out = true) (hch : chainB ops ch = true)
    (hop : ∀ (j : Nat) o, ops[j]? = some o → ∀ m a w K, (∀ t ∈ out, a.tmps.getD t undef = a0.tmps.getD t undef) → (∀ p ∈ needOf ops j, Γ p.1 m w (a.tmps.getD p.2 undef)) → (∀ i, ch[i]? = some j → i = m) → I m w →
      (∀ v w', Γ j (nextOf ch j m) w' v → (∀ i oi d, i ≠ j → ops[i]? = some oi → oi.dst = some d → Γ i m w (a.tmps.getD d undef) → Γ i (nextOf ch j m) w' (a.tmps.getD d undef)) → I (nextOf ch j m) w' → K (a.put o.dst v) w') → o.wp P a w K Q)
    (hend : ∀ a w, a.tmps.size = n → a.defers = a0.defers → (∀ t ∈ out, a.tmps.getD t undef = a0.tmps.getD t undef) → (∀ t, (∀ (j : Nat) o, ops[j]? = some o → o.dst ≠ some t) → a.tmps.getD t undef = a0.tmps.getD t undef) →
      (∀ (j : Nat) o d, ops[j]? = some o → o.dst = some d → Γ j ch.length w (a.tmps.getD d undef)) → I ch.length w → Q .normal a w) :
    ∀ (fuel : Nat) (listed : Array Bool) (a : Act) (w : World), KeptT ops Γ ch I n a0 listed a w → ops.size ≤ up listed + fuel → wpAny P .any ops Q fuel listed a w := by
  have fin : ∀ (listed : Array Bool) (a : Act) (w : World), KeptT ops Γ ch I n a0 listed a w → up listed = ops.size → Q .normal a w := by
    intro listed a w hk hu
    have hall : ∀ j, j < ops.size → listed.getD j false = true := fun j hj => up_all (by rw [hu, hk.size]) (by rw [hk.size]; exact hj)
    obtain ⟨m, hm, hml, hI, hsl⟩ := hk.inv
    have hme : m = ch.length := by
      rcases Nat.lt_or_ge m ch.length with h | h
      · obtain ⟨o, ho, _⟩ := chainB_at hch (List.getElem?_eq_getElem h)
        have := (hm m _ (List.getElem?_eq_getElem h)).1 (hall _ (Array.getElem?_eq_some_iff.1 ho).1)
        omega
      · omega
    subst hme
    refine hend a w hk.len hk.defers (fun t ht => hk.keep t (fun j oj hj hdj => ((formB_at hf hj).2.2 t hdj).2.1 ht)) hk.keep (fun j o d ho hd => hsl j o d ho hd ?_) hI
    exact hall j (Array.getElem?_eq_some_iff.1 ho).1
  intro fuel
  induction fuel with
  | zero =>
    intro listed a w hk hle
    have hu : up listed = ops.size := by have := up_le listed; have := hk.size; omega
    refine ⟨?_, fin listed a w hk hu⟩
    cases hr : Region.ready .any ops listed with
    | nil => rfl
    | cons i l =>
      have hm : i ∈ Region.ready .any ops listed := by rw [hr]; simp
      obtain ⟨h0, _⟩ := mem_ready.1 hm
      have := (up_set h0).1
      have h3 := up_le (listed.setIfInBounds i true)
      have h4 : (listed.setIfInBounds i true).size = listed.size := by simp
      have := hk.size
      omega
  | succ fuel ih =>
    intro listed a w hk hle
    refine ⟨fun hr => fin listed a w hk (some_ready hf hk.size hr), fun i hi => ?_⟩
    obtain ⟨h0, o, ho, hall⟩ := mem_ready.1 hi
    obtain ⟨hu, hil⟩ := up_set h0
    obtain ⟨hlt, hg, hd⟩ := formB_at hf ho
    obtain ⟨m, hm, hml, hI, hsl⟩ := hk.inv
    have hfalse : listed.getD i false = false := by simpa [hil] using h0
    have hnow : ∀ q, ch[q]? = some i → q = m := by
      intro q hq
      have h1 : ¬ q < m := fun h => by rw [(hm q i hq).2 h] at hfalse; cases hfalse
      cases q with
      | zero => omega
      | succ q' =>
        obtain ⟨o', ho', hprev⟩ := chainB_at hch hq
        obtain rfl : o = o' := Option.some.inj (ho.symm.trans ho')
        obtain ⟨e, he, hb, hce⟩ := hprev q' rfl
        have := (hm q' e.on hce).1 (hall e he hb)
        omega
    unfold wpOp
    simp only [ho]
    rw [if_pos (by simp [Region.wanted, hg])]
    left
    refine hop i o ho m a w _ (fun t ht => hk.keep t (fun j oj hj hdj => ?_)) (fun p hp => ?_) hnow hI ?_
    · exact ((formB_at hf hj).2.2 t hdj).2.1 ht
    · obtain ⟨⟨e, he, hep, hb⟩, oj, hoj, hdj⟩ := needOf_spec ho hp
      exact hsl p.1 oj p.2 hoj hdj (by rw [← hep]; exact hall e he hb)
    · intro v w' hv hR hI'
      refine ih _ _ _ ⟨by simpa using hk.size, by rw [put_size]; exact hk.len, by rw [put_defers']; exact hk.defers, fun t ht => ?_, ⟨nextOf ch i m, ?_, ?_, hI', fun j oj d hj hdj hl => ?_⟩⟩ (by omega)
      · rw [put_other a v (ht i o ho)]
        exact hk.keep t ht
      · intro q j hq
        by_cases hji : j = i
        · subst hji
          have hqm := hnow q hq
          have hc : j ∈ ch := List.mem_of_getElem? hq
          rw [getD_set_own hil]
          simp [nextOf, hc, hqm]
        · rw [getD_set_ne (listed := listed) false (Ne.symm hji), hm q j hq]
          unfold nextOf
          split
          · rename_i hc
            obtain ⟨q', hq'⟩ := List.mem_iff_getElem?.1 (show i ∈ ch by simpa using hc)
            have h1 := hnow q' hq'
            have h2 : q ≠ m := fun e => hji (Option.some.inj ((e ▸ hq).symm.trans (h1 ▸ hq')))
            omega
          · exact Iff.rfl
      · unfold nextOf
        split
        · rename_i hc
          obtain ⟨q', hq'⟩ := List.mem_iff_getElem?.1 (show i ∈ ch by simpa using hc)
          have h1 := hnow q' hq'
          have := (List.getElem?_eq_some_iff.1 hq').1
          omega
        · exact hml
      · by_cases hji : j = i
        · subst hji
          obtain rfl : o = oj := Option.some.inj (ho.symm.trans hj)
          rw [hdj, put_own a v (hd d hdj).1 hk.len]
          exact hv
        · have hne : o.dst ≠ some d := fun e => hji ((hd d e).2.2 j oj hj hdj)
          rw [put_other a v hne]
          refine hR j oj d hji hj hdj (hsl j oj d hj hdj ?_)
          rw [← getD_set_ne (listed := listed) false (Ne.symm hji)]
          exact hl
theorem wp_region_stage2 {id : Nat} {a : Act} {w : World} (hmx : P.follows .mixedOrders = true) (Γ : Nat → Nat → World → Value → Prop) (out ch : List Nat) (I : Nat → World → Prop) (n : Nat) (hf : formB ops n out = true) (hch : chainB ops ch = true)
    (hn : a.tmps.size = n) (h0 : I 0 { w with drawn := w.drawn + 1 })
    (hop : ∀ (j : Nat) o, ops[j]? = some o → ∀ m a' w K, (∀ t ∈ out, a'.tmps.getD t undef = a.tmps.getD t undef) → (∀ p ∈ needOf ops j, Γ p.1 m w (a'.tmps.getD p.2 undef)) → (∀ i, ch[i]? = some j → i = m) → I m w →
      (∀ v w', Γ j (nextOf ch j m) w' v → (∀ i oi d, i ≠ j → ops[i]? = some oi → oi.dst = some d → Γ i m w (a'.tmps.getD d undef) → Γ i (nextOf ch j m) w' (a'.tmps.getD d undef)) → I (nextOf ch j m) w' → K (a'.put o.dst v) w') → o.wp P a' w K Q)
    (hend : ∀ a' w', a'.tmps.size = n → a'.defers = a.defers → (∀ t ∈ out, a'.tmps.getD t undef = a.tmps.getD t undef) → (∀ t, (∀ (j : Nat) o, ops[j]? = some o → o.dst ≠ some t) → a'.tmps.getD t undef = a.tmps.getD t undef) →
      (∀ (j : Nat) o d, ops[j]? = some o → o.dst = some d → Γ j ch.length w' (a'.tmps.getD d undef)) → I ch.length w' → Q .normal a' w') : (Code.region id ops true).wp P Q a w := by
  have hfl : ∀ j, (Array.replicate ops.size false).getD j false = false := by
    intro j
    simp [Array.getElem?_replicate]
    split <;> simp
  refine wp_region_any hmx (wpAny_stage2 (out := out) (ch := ch) (I := I) (Γ := Γ) (n := n) (a0 := a) hf hch hop hend ops.size _ a _ ⟨by simp, hn, rfl, fun _ _ => rfl, ⟨0, fun i j _ => ?_, Nat.zero_le _, h0, fun j o d _ _ hl => ?_⟩⟩ (by omega))
  · rw [hfl j]
    simp
  · rw [hfl j] at hl
    cases hl
end
end Go.Proofs.Ythogonpjkngpjaa

namespace Go.Proofs.Ythogonpjkngpjaa
set_option maxRecDepth 100000
open Go.RowKit
def leaves (F : List (Option Value)) (j : Nat) (u : Value) : Prop := ∀ x, F.getD j none = some x → u = x
section
variable {P : Program} {ops : Array Oper} {Q : Exit → Act → World → Prop}
theorem wp_region_links {id : Nat} {a : Act} {w : World} (hmx : P.follows .mixedOrders = true) (out ch : List Nat) (n : Nat) (L : List (Nat × Nat)) (F : List (Option Value)) (I : Nat → World → Prop)
    (hf : formB ops n out = true) (hch : chainB ops ch = true) (hL : dstsOf ops ops.size = L) (hn : a.tmps.size = n) (h0 : I 0 { w with drawn := w.drawn + 1 })
    (hop : ∀ (j : Nat) o, ops[j]? = some o → ∀ m a' v K, (∀ t ∈ out, a'.tmps.getD t undef = a.tmps.getD t undef) → (∀ p ∈ needOf ops j, leaves F p.1 (a'.tmps.getD p.2 undef)) → (∀ i, ch[i]? = some j → i = m) → I m v →
      (∀ u v', leaves F j u → I (nextOf ch j m) v' → K (a'.put o.dst u) v') → o.wp P a' v K Q)
    (hend : ∀ (f : Nat → Value) v, (∀ p ∈ L, leaves F p.1 (f p.1)) → I ch.length v → Q .normal (L.foldl (fun b p => b.put (some p.2) (f p.1)) a) v) : (Code.region id ops true).wp P Q a w := by
  subst hL
  refine wp_region_stage2 hmx (fun j _ _ u => leaves F j u) out ch I n hf hch hn h0 ?_ ?_
  · intro j o ho m a' v K' hx hnd hm hI hK
    exact hop j o ho m a' v K' hx hnd hm hI (fun u v' hu hi => hK u v' hu (fun _ _ _ _ _ _ h => h) hi)
  · intro a' w' hsz hdf hout hrest hs hI
    have hdst : ∀ p ∈ dstsOf ops ops.size, leaves F p.1 (a'.tmps.getD p.2 undef) ∧ p.2 < n := by
      intro p hp
      obtain ⟨_, o, h2, h3⟩ := dstsOf_mem.1 hp
      exact ⟨hs p.1 o p.2 h2 h3, ((formB_at hf h2).2.2 p.2 h3).1⟩
    obtain ⟨f, hfv⟩ : ∃ f : Nat → Value, ∀ p ∈ dstsOf ops ops.size, f p.1 = a'.tmps.getD p.2 undef := by
      refine ⟨fun j => match (ops[j]?).bind (·.dst) with | some d => a'.tmps.getD d undef | none => undef, fun p hp => ?_⟩
      obtain ⟨_, o, h2, h3⟩ := dstsOf_mem.1 hp
      simp [h2, h3]
    have E := act_eqT hsz hdf (dstsOf ops ops.size) f a hn rfl (fun p hp => ⟨(hdst p hp).2, (hfv p hp).symm⟩) (fun t ht => hrest t (fun j o ho hd => ht (j, t) (dstsOf_mem.2 ⟨(Array.getElem?_eq_some_iff.1 ho).1, o, ho, hd⟩) rfl))
    rw [E]
    exact hend f w' (fun p hp => by rw [hfv p hp]; exact (hdst p hp).1) hI
theorem links_of {F : List (Option Value)} {j : Nat} {a' : Act} (hnd : ∀ p ∈ needOf ops j, leaves F p.1 (a'.tmps.getD p.2 undef)) (i t : Nat) (x : Value) (h : (needOf ops j).contains (i, t) = true) (hx : F.getD i none = some x) : a'.eval (.tmp t) = x :=
  hnd (i, t) (by simpa using h) x hx
end
end Go.Proofs.Ythogonpjkngpjaa
