/-
  Pairs of addresses and the sum of the pseudo header, in the program and in the model.
-/
import Derived.Test.YthfmjnebpdhdfaaUpLib
import Derived.Test.YthfmjnebpdhdfaaRegOwn
import Derived.Test.YthfmjnebpdhdfaaAddrImpl
import Derived.Test.YthfmjnebpdhdfaaSumSpec
import Derived.Test.YthfmjnebpdhdfaaSumImpl
import Derived.Test.YthfmjnebpdhdfaaFourHead
import Derived.Test.YthfmjnebpdhdfaaSpecIn
import Derived.Test.YthfmjnebpdhdfaaStepsU
import Derived.Deep.Cut
namespace Go.Proofs.Ythfmjnebpdhdfaa
set_option maxRecDepth 100000
open Go.RowKit

theorem info_addrP : (Try.prog.info? 29).map (·.size) = some 5 := by kernel_rfl
theorem info_laddrP : (Try.prog.info? 23).map (·.size) = some 5 := by kernel_rfl
theorem loadA {ops : Array Oper} {rest : List Oper} {o : Oper} {a : Act} {w : World} {Q : Exit → Act → World → Prop} (hgd : o.guard = none) (x : Operand) (ho : o.op = .load 29 x) (g : Nat) (hx : a.eval x = .pointer (some ⟨g, 0, none⟩)) {t : TypeId} {v0 v1 v2 v3 v4 : Value}
    (hg : w.heap[g]? = some (.cells #[v0, v1, v2, v3, v4] t (0, 0))) (h : wpList Try.prog ops Q rest (a.put o.dst (.agg #[v0, v1, v2, v3, v4])) w) : wpList Try.prog ops Q (o :: rest) a w :=
  wpList_load_row hgd 29 x ho g hx t _ (0, 0) _ hg Try.underlying29 rfl info_addrP h
theorem implOkB (x : Ad) (b : Bool) (h : x.ok = b) (w : World) : Calls Try.prog 106 #[.agg #[.int .i64 x.k, .int .i64 x.a, .int .i64 x.b, .int .i64 x.c, .int .i64 x.d]] w fun e w' => e = .returned (.bool b) ∧ Below w.heap.size w w' := h ▸ implAddrOk x w
theorem specOkB (x : Ad) (b : Bool) (h : x.ok = b) (w : World) : Calls Try.prog 97 #[.agg #[.int .i64 x.k, .int .i64 x.a, .int .i64 x.b, .int .i64 x.c, .int .i64 x.d]] w fun e w' => e = .returned (.bool b) ∧ Below w.heap.size w w' := h ▸ specAddrOk x w
theorem Ad.len4 {x : Ad} (h : x.ok = true) (k : x.k = 4) : x.bytes.length = 4 := by simp [Ad.bytes, h, k, put32]
theorem Ad.len6 {x : Ad} (h : x.ok = true) (k : ¬ x.k = 4) : x.bytes.length = 16 := by simp [Ad.bytes, h, k, Ad.whole_length]
theorem rb_lit2 (w : World) (p : Int) (hp : 0 ≤ p ∧ p ≤ 255) : RB (w.alloc (.cells #[.int .u8 0, .int .u8 p] 5)) (w.heap.size + 1) (some ⟨w.heap.size, 0, none⟩) [0, byteOf p] := by
  have h := RB.new w 5 [0, byteOf p]
  have e : (cellsOf [0, byteOf p]).toArray = #[.int .u8 0, .int .u8 p] := by simp [cellsOf, byteOf_val, Int.emod_eq_of_lt hp.1 (show p < 256 by omega)]
  rwa [e] at h
theorem rb_lit4 (w : World) (p : Int) (hp : 0 ≤ p ∧ p ≤ 255) : RB (w.alloc (.cells #[.int .u8 0, .int .u8 0, .int .u8 0, .int .u8 p] 5)) (w.heap.size + 1) (some ⟨w.heap.size, 0, none⟩) [0, 0, 0, byteOf p] := by
  have h := RB.new w 5 [0, 0, 0, byteOf p]
  have e : (cellsOf [0, 0, 0, byteOf p]).toArray = #[.int .u8 0, .int .u8 0, .int .u8 0, .int .u8 p] := by simp [cellsOf, byteOf_val, Int.emod_eq_of_lt hp.1 (show p < 256 by omega)]
  rwa [e] at h

section
variable {o : Oper} {a : Act} {w : World} {K : Act → World → Prop} {Q : Exit → Act → World → Prop}
theorem u_addrBytesI (x : Operand) (x0 : Value) (ts : Array TypeId) (ho : o.op = .call { callee := .value (.func 94), args := #[x], argTypes := ts }) (h0 : a.eval x = x0)
    (h : Calls Try.prog 94 #[x0] w fun e w' => ∃ v, e = .returned v ∧ K (a.put o.dst v) w') : o.wp Try.prog a w K Q := by
  unfold Oper.wp execOp
  simp only [ho, resolve, List.map_toArray, List.map_cons, List.map_nil, h0, show ∀ f, a.eval (.func f) = .func (.func f) #[] #[] from fun _ => rfl]
  go_simp
  exact h.mono fun e w' ⟨u, he, hk⟩ => by subst he; exact hk
theorem u_addrBytesS (x : Operand) (x0 : Value) (ts : Array TypeId) (ho : o.op = .call { callee := .value (.func 143), args := #[x], argTypes := ts }) (h0 : a.eval x = x0)
    (h : Calls Try.prog 143 #[x0] w fun e w' => ∃ v, e = .returned v ∧ K (a.put o.dst v) w') : o.wp Try.prog a w K Q := by
  unfold Oper.wp execOp
  simp only [ho, resolve, List.map_toArray, List.map_cons, List.map_nil, h0, show ∀ f, a.eval (.func f) = .func (.func f) #[] #[] from fun _ => rfl]
  go_simp
  exact h.mono fun e w' ⟨u, he, hk⟩ => by subst he; exact hk
end

set_option maxHeartbeats 2000000 in
theorem pairI (x y : Ad) (w : World) : Calls Try.prog 110 #[.agg #[.int .i64 x.k, .int .i64 x.a, .int .i64 x.b, .int .i64 x.c, .int .i64 x.d], .agg #[.int .i64 y.k, .int .i64 y.a, .int .i64 y.b, .int .i64 y.c, .int .i64 y.d]] w fun e w' => e = .returned (.bool (pairA x y)) ∧ Below w.heap.size w w' := by
  have q0 : Hid (((w.alloc (.cells #[.int .i64 x.k, .int .i64 x.a, .int .i64 x.b, .int .i64 x.c, .int .i64 x.d] 29)).alloc (.cells #[.int .i64 y.k, .int .i64 y.a, .int .i64 y.b, .int .i64 y.c, .int .i64 y.d] 29)).heap[w.heap.size]? = some (.cells #[.int .i64 x.k, .int .i64 x.a, .int .i64 x.b, .int .i64 x.c, .int .i64 x.d] 29)) := Lib.hid (by repeat (first | exact K.newAt (by first | rfl | (simp; done)) | refine K.oldAt (by first | (simp; done) | (simp; omega)) ?_))
  have q1 : Hid (((w.alloc (.cells #[.int .i64 x.k, .int .i64 x.a, .int .i64 x.b, .int .i64 x.c, .int .i64 x.d] 29)).alloc (.cells #[.int .i64 y.k, .int .i64 y.a, .int .i64 y.b, .int .i64 y.c, .int .i64 y.d] 29)).heap[w.heap.size + 1]? = some (.cells #[.int .i64 y.k, .int .i64 y.a, .int .i64 y.b, .int .i64 y.c, .int .i64 y.d] 29)) := Lib.hid (by repeat (first | exact K.newAt (by first | rfl | (simp; done)) | refine K.oldAt (by first | (simp; done) | (simp; omega)) ?_))
  cases hx : x.ok with
  | false =>
    have HX := Lib.hid hx
    have HR := Lib.hid (show pairA x y = false by simp [pairA, hx])
    clear hx
    go_enter Try.func110, Try.ntmps110
    go_wp2_with (with_reducible refine loadA rfl _ rfl w.heap.size rfl q0.out ?_)
    refine Calls.mono (implOkB x false HX.out _) ?_
    rintro e w1 ⟨rfl, b1⟩
    have B1 := Lib.hid (bthen (Joins.below_alloc2 w _ _) b1)
    clear b1
    go_wp2
    go_ret
    exact ⟨ret_bool HR.out.symm, B1.out⟩
  | true =>
    cases hy : y.ok with
    | false =>
      have HX := Lib.hid hx
      have HY := Lib.hid hy
      have HR := Lib.hid (show pairA x y = false by simp [pairA, hy])
      clear hx hy
      go_enter Try.func110, Try.ntmps110
      go_wp2_with (with_reducible refine loadA rfl _ rfl w.heap.size rfl q0.out ?_)
      refine Calls.mono (implOkB x true HX.out _) ?_
      rintro e w1 ⟨rfl, b1⟩
      have B1 := Lib.hid (bthen (Joins.below_alloc2 w _ _) b1)
      have q2 := Lib.hid (K.below b1 q1.out)
      clear b1
      have c := K.row5 q2.out
      obtain ⟨c0, c1, c2, c3, c4⟩ := c
      go_wp2_with fail
      refine Calls.mono (implOkB y false HY.out _) ?_
      rintro e w2 ⟨rfl, b2⟩
      have B2 := Lib.hid (bthen B1.out b2)
      clear b2 c0 c1 c2 c3 c4
      go_wp2
      go_ret
      exact ⟨ret_bool HR.out.symm, B2.out⟩
    | true =>
      have HX := Lib.hid hx
      have HY := Lib.hid hy
      have HR := Lib.hid (show pairA x y = decide (x.k = y.k) by simp [pairA, hx, hy])
      clear hx hy
      go_enter Try.func110, Try.ntmps110
      go_wp2_with (with_reducible refine loadA rfl _ rfl w.heap.size rfl q0.out ?_)
      refine Calls.mono (implOkB x true HX.out _) ?_
      rintro e w1 ⟨rfl, b1⟩
      have B1 := Lib.hid (bthen (Joins.below_alloc2 w _ _) b1)
      have q2 := Lib.hid (K.below b1 q1.out)
      have p2 := Lib.hid (K.below b1 q0.out)
      clear b1
      obtain ⟨c0, c1, c2, c3, c4⟩ := K.row5 q2.out
      go_wp2_with fail
      refine Calls.mono (implOkB y true HY.out _) ?_
      rintro e w2 ⟨rfl, b2⟩
      have B2 := Lib.hid (bthen B1.out b2)
      have d0 := K.cell (K.below b2 q2.out) 0 _ rfl
      have d1 := K.cell (K.below b2 p2.out) 0 _ rfl
      clear b2 c0 c1 c2 c3 c4
      go_wp2
      go_ret
      exact ⟨ret_bool (by rw [HR.out]; rfl), B2.out⟩

set_option maxHeartbeats 2000000 in
theorem pairS (x y : Ad) (w : World) : Calls Try.prog 74 #[.agg #[.int .i64 x.k, .int .i64 x.a, .int .i64 x.b, .int .i64 x.c, .int .i64 x.d], .agg #[.int .i64 y.k, .int .i64 y.a, .int .i64 y.b, .int .i64 y.c, .int .i64 y.d]] w fun e w' => e = .returned (.bool (pairA x y)) ∧ Below w.heap.size w w' := by
  have q0 : Hid (((w.alloc (.cells #[.int .i64 x.k, .int .i64 x.a, .int .i64 x.b, .int .i64 x.c, .int .i64 x.d] 29)).alloc (.cells #[.int .i64 y.k, .int .i64 y.a, .int .i64 y.b, .int .i64 y.c, .int .i64 y.d] 29)).heap[w.heap.size]? = some (.cells #[.int .i64 x.k, .int .i64 x.a, .int .i64 x.b, .int .i64 x.c, .int .i64 x.d] 29)) := Lib.hid (by repeat (first | exact K.newAt (by first | rfl | (simp; done)) | refine K.oldAt (by first | (simp; done) | (simp; omega)) ?_))
  have q1 : Hid (((w.alloc (.cells #[.int .i64 x.k, .int .i64 x.a, .int .i64 x.b, .int .i64 x.c, .int .i64 x.d] 29)).alloc (.cells #[.int .i64 y.k, .int .i64 y.a, .int .i64 y.b, .int .i64 y.c, .int .i64 y.d] 29)).heap[w.heap.size + 1]? = some (.cells #[.int .i64 y.k, .int .i64 y.a, .int .i64 y.b, .int .i64 y.c, .int .i64 y.d] 29)) := Lib.hid (by repeat (first | exact K.newAt (by first | rfl | (simp; done)) | refine K.oldAt (by first | (simp; done) | (simp; omega)) ?_))
  cases hx : x.ok with
  | false =>
    have HX := Lib.hid hx
    have HR := Lib.hid (show pairA x y = false by simp [pairA, hx])
    clear hx
    go_enter Try.func74, Try.ntmps74
    go_wp2_with (with_reducible refine loadA rfl _ rfl w.heap.size rfl q0.out ?_)
    refine Calls.mono (specOkB x false HX.out _) ?_
    rintro e w1 ⟨rfl, b1⟩
    have B1 := Lib.hid (bthen (Joins.below_alloc2 w _ _) b1)
    clear b1
    go_wp2
    go_ret
    exact ⟨ret_bool HR.out.symm, B1.out⟩
  | true =>
    cases hy : y.ok with
    | false =>
      have HX := Lib.hid hx
      have HY := Lib.hid hy
      have HR := Lib.hid (show pairA x y = false by simp [pairA, hy])
      clear hx hy
      go_enter Try.func74, Try.ntmps74
      go_wp2_with (with_reducible refine loadA rfl _ rfl w.heap.size rfl q0.out ?_)
      refine Calls.mono (specOkB x true HX.out _) ?_
      rintro e w1 ⟨rfl, b1⟩
      have B1 := Lib.hid (bthen (Joins.below_alloc2 w _ _) b1)
      have q2 := Lib.hid (K.below b1 q1.out)
      clear b1
      have c := K.row5 q2.out
      obtain ⟨c0, c1, c2, c3, c4⟩ := c
      go_wp2_with fail
      refine Calls.mono (specOkB y false HY.out _) ?_
      rintro e w2 ⟨rfl, b2⟩
      have B2 := Lib.hid (bthen B1.out b2)
      clear b2 c0 c1 c2 c3 c4
      go_wp2
      go_ret
      exact ⟨ret_bool HR.out.symm, B2.out⟩
    | true =>
      have HX := Lib.hid hx
      have HY := Lib.hid hy
      have HR := Lib.hid (show pairA x y = decide (x.k = y.k) by simp [pairA, hx, hy])
      clear hx hy
      go_enter Try.func74, Try.ntmps74
      go_wp2_with (with_reducible refine loadA rfl _ rfl w.heap.size rfl q0.out ?_)
      refine Calls.mono (specOkB x true HX.out _) ?_
      rintro e w1 ⟨rfl, b1⟩
      have B1 := Lib.hid (bthen (Joins.below_alloc2 w _ _) b1)
      have q2 := Lib.hid (K.below b1 q1.out)
      have p2 := Lib.hid (K.below b1 q0.out)
      clear b1
      obtain ⟨c0, c1, c2, c3, c4⟩ := K.row5 q2.out
      go_wp2_with fail
      refine Calls.mono (specOkB y true HY.out _) ?_
      rintro e w2 ⟨rfl, b2⟩
      have B2 := Lib.hid (bthen B1.out b2)
      have d0 := K.cell (K.below b2 q2.out) 0 _ rfl
      have d1 := K.cell (K.below b2 p2.out) 0 _ rfl
      clear b2 c0 c1 c2 c3 c4
      go_wp2
      go_ret
      exact ⟨ret_bool (by rw [HR.out]; rfl), B2.out⟩
end Go.Proofs.Ythfmjnebpdhdfaa
