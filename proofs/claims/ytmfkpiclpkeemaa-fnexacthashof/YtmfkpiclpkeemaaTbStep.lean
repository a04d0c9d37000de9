/-
  Steps of regions over a boxed flow key: fields, loads, bytes, calls.
-/
import Derived.Test.YtmfkpiclpkeemaaTabLib
import Derived.Test.YtmfkpiclpkeemaaAddrImpl
import Derived.Test.YtmfkpiclpkeemaaAddrBytes
import Derived.Test.YtmfkpiclpkeemaaPut
import Derived.Test.YtmfkpiclpkeemaaRegFacts
import Derived.Test.YtmfkpiclpkeemaaBuild
import Derived.Test.YtmfkpiclpkeemaaFk
namespace Go.Proofs.Ytmfkpiclpkeemaa
set_option maxRecDepth 100000
open Go.RowKit

theorem info_adT : (Try.prog.info? 29).map (·.size) = some 5 := by kernel_rfl
theorem range5 {w : World} {g o : Nat} {v0 v1 v2 v3 v4 : Value} (h0 : w.cell? ⟨g, o, none⟩ = some v0) (h1 : w.cell? ⟨g, o + 1, none⟩ = some v1) (h2 : w.cell? ⟨g, o + 2, none⟩ = some v2) (h3 : w.cell? ⟨g, o + 3, none⟩ = some v3) (h4 : w.cell? ⟨g, o + 4, none⟩ = some v4) : w.rangeAt g o [v0, v1, v2, v3, v4] := by
  intro j v hv
  match j, hv with
  | 0, hv => cases hv; exact h0
  | 1, hv => cases hv; exact h1
  | 2, hv => cases hv; exact h2
  | 3, hv => cases hv; exact h3
  | 4, hv => cases hv; exact h4
  | j + 5, hv => simp at hv
theorem bytes1 (n : Int) (h : 0 ≤ n ∧ n < 256) : cellsOf [byteOf n] = [.int .u8 n] := by simp [cellsOf, byteOf_val, Int.emod_eq_of_lt h.1 h.2]
theorem bytes2 (m n : Int) (h : 0 ≤ m ∧ m < 256) (h2 : 0 ≤ n ∧ n < 256) : cellsOf [byteOf m, byteOf n] = [.int .u8 m, .int .u8 n] := by simp [cellsOf, byteOf_val, Int.emod_eq_of_lt h.1 h.2, Int.emod_eq_of_lt h2.1 h2.2]
theorem rbT1 (w : World) (n : Int) (h : 0 ≤ n ∧ n < 256) : RB (w.alloc (.cells #[.int .u8 n] 5)) (w.heap.size + 1) (some ⟨w.heap.size, 0, none⟩) [byteOf n] := by
  have := RB.new w 5 [byteOf n]
  rw [bytes1 n h] at this
  exact this
theorem rbT2 (w : World) (m n : Int) (h : 0 ≤ m ∧ m < 256) (h2 : 0 ≤ n ∧ n < 256) : RB (w.alloc (.cells #[.int .u8 m, .int .u8 n] 5)) (w.heap.size + 1) (some ⟨w.heap.size, 0, none⟩) [byteOf m, byteOf n] := by
  have := RB.new w 5 [byteOf m, byteOf n]
  rw [bytes2 m n h h2] at this
  exact this
theorem adS (x : Ad) (bs : List UInt8) (L : Nat) (h : x.bytes = bs) (hl : bs.length = L) (v : World) : Calls Try.prog 104 #[.agg #[.int .i64 x.k, .int .i64 x.a, .int .i64 x.b, .int .i64 x.c, .int .i64 x.d]] v fun e v' => ∃ A c, e = .returned (.slice A L c) ∧ v'.ownsRow v.heap.size 5 1 (.slice A L c) L (cellsOf bs) ∧ Below v.heap.size v v' := by
  have k := specAddrBytes x v
  unfold BytesOut at k
  rwa [h, hl] at k
theorem adI (x : Ad) (bs : List UInt8) (L : Nat) (h : x.bytes = bs) (hl : bs.length = L) (v : World) : Calls Try.prog 107 #[.agg #[.int .i64 x.k, .int .i64 x.a, .int .i64 x.b, .int .i64 x.c, .int .i64 x.d]] v fun e v' => ∃ A c, e = .returned (.slice A L c) ∧ v'.ownsRow v.heap.size 5 1 (.slice A L c) L (cellsOf bs) ∧ Below v.heap.size v v' := by
  have k := implAddrBytes x v
  unfold BytesOut at k
  rwa [h, hl] at k
theorem p16S (n : Int) (w : World) : Calls Try.prog 105 #[.int .i64 n] w fun e w' => ∃ A c, e = .returned (.slice A 2 c) ∧ w'.ownsRow w.heap.size 5 1 (.slice A 2 c) 2 (cellsOf (put16 n)) ∧ Below w.heap.size w w' := (specPut16 n w).mono fun _ _ ⟨h, o, b⟩ => ⟨_, _, h, o, b⟩
theorem p16I (n : Int) (w : World) : Calls Try.prog 108 #[.int .i64 n] w fun e w' => ∃ A c, e = .returned (.slice A 2 c) ∧ w'.ownsRow w.heap.size 5 1 (.slice A 2 c) 2 (cellsOf (put16 n)) ∧ Below w.heap.size w w' := (implPut16 n w).mono fun _ _ ⟨h, o, b⟩ => ⟨_, _, h, o, b⟩
theorem Fk.parts {k : Fk} (h : k.ok = true) : (0 ≤ k.tenant ∧ k.tenant < 256) ∧ (0 ≤ k.key.src.k ∧ k.key.src.k < 256) ∧ (0 ≤ k.key.proto ∧ k.key.proto < 256) := by
  simp only [Fk.ok, Ky.ok, pairA, btw, upTo, Bool.and_eq_true, decide_eq_true_eq] at h
  have := Ad.ok_kind h.2.1.1.1.1.1
  omega
theorem Ad.short (x : Ad) : x.bytes.length ≤ 16 := by
  unfold Ad.bytes
  split
  · split
    · simp [put32]
    · rw [Ad.whole_length]; omega
  · simp
theorem Fk.short (k : Fk) : k.bytes.length ≤ 39 := by
  have h1 := Ad.short k.key.src
  have h2 := Ad.short k.key.dst
  simp only [Fk.bytes, List.length_append, put16, List.length_cons, List.length_nil]
  omega

section
variable {o : Oper} {a : Act} {w : World} {K : Act → World → Prop} {Q : Exit → Act → World → Prop}
theorem t_mv (x : Operand) (v : Value) (ho : o.op = .move x) (hx : a.eval x = v) (hK : K (a.put o.dst v) w) : o.wp Try.prog a w K Q := by
  unfold Oper.wp execOp
  simp only [ho, hx]
  go_simp
  exact hK
theorem t_int (x : Operand) (g j : Nat) (v : Value) (ho : o.op = .load 3 x) (hx : a.eval x = .pointer (some ⟨g, j, none⟩)) (hc : w.cell? ⟨g, j, none⟩ = some v) (hK : K (a.put o.dst v) w) : o.wp Try.prog a w K Q := by
  unfold Oper.wp execOp
  simp only [ho, hx]
  go_simp
  exact hK
theorem t_byte (x : Operand) (m : Int) (ho : o.op = .convert 3 5 x) (hx : a.eval x = .int .i64 m) (h : 0 ≤ m ∧ m < 256) (hK : K (a.put o.dst (.int .u8 m)) w) : o.wp Try.prog a w K Q := by
  unfold Oper.wp execOp
  simp only [ho, hx]
  go_simp
  rw [show IntKind.u8.wrap m = m by rw [IntKind.wrap_u8]; omega]
  exact hK
theorem t_two (x y : Operand) (m n : Int) (ho : o.op = .buildSlice 65 2 #[(0, x), (1, y)]) (hx : a.eval x = .int .u8 m) (hy : a.eval y = .int .u8 n) (hm : 0 ≤ m ∧ m < 256) (hn : 0 ≤ n ∧ n < 256)
    (hK : ∀ v w', (∃ A c, v = .slice A 2 c ∧ RB w' w'.heap.size A [byteOf m, byteOf n]) → Below w.heap.size w w' → K (a.put o.dst v) w') : o.wp Try.prog a w K Q := by
  unfold Oper.wp execOp
  simp only [ho, List.map_toArray, List.map_cons, List.map_nil, hx, hy]
  go_simp
  exact hK _ _ ⟨_, _, rfl, by have := rbT2 w m n hm hn; simpa using this⟩ (Joins.below_alloc1 w _)
theorem t_one (x : Operand) (m : Int) (ho : o.op = .buildSlice 65 1 #[(0, x)]) (hx : a.eval x = .int .u8 m) (hm : 0 ≤ m ∧ m < 256)
    (hK : ∀ v w', (∃ A c, v = .slice A 1 c ∧ RB w' w'.heap.size A [byteOf m]) → Below w.heap.size w w' → K (a.put o.dst v) w') : o.wp Try.prog a w K Q := by
  unfold Oper.wp execOp
  simp only [ho, List.map_toArray, List.map_cons, List.map_nil, hx]
  go_simp
  exact hK _ _ ⟨_, _, rfl, by have := rbT1 w m hm; simpa using this⟩ (Joins.below_alloc1 w _)
theorem t_ad (x : Operand) (g of : Nat) (r : Ad) (ho : o.op = .load 29 x) (hx : a.eval x = .pointer (some ⟨g, of, none⟩)) (hc : w.rangeAt g of [.int .i64 r.k, .int .i64 r.a, .int .i64 r.b, .int .i64 r.c, .int .i64 r.d]) (hK : K (a.put o.dst (.agg #[.int .i64 r.k, .int .i64 r.a, .int .i64 r.b, .int .i64 r.c, .int .i64 r.d])) w) : o.wp Try.prog a w K Q :=
  wp_load_mid 29 x ho g of hx _ _ hc Try.underlying29 rfl info_adT hK
theorem t_fk0 (x : Operand) (g : Nat) (ho : o.op = .fieldAddr 33 x 0) (hx : a.eval x = .pointer (some ⟨g, 0, none⟩)) (hK : K (a.put o.dst (.pointer (some ⟨g, 0, none⟩))) w) : o.wp Try.prog a w K Q := by
  unfold Oper.wp execOp
  simp only [ho, hx]
  go_simp
  exact hK
theorem t_fk1 (x : Operand) (g : Nat) (ho : o.op = .fieldAddr 33 x 1) (hx : a.eval x = .pointer (some ⟨g, 0, none⟩)) (hK : K (a.put o.dst (.pointer (some ⟨g, 1, none⟩))) w) : o.wp Try.prog a w K Q := by
  unfold Oper.wp execOp
  simp only [ho, hx]
  go_simp
  exact hK
theorem t_ky0 (x : Operand) (g : Nat) (ho : o.op = .fieldAddr 31 x 0) (hx : a.eval x = .pointer (some ⟨g, 1, none⟩)) (hK : K (a.put o.dst (.pointer (some ⟨g, 1, none⟩))) w) : o.wp Try.prog a w K Q := by
  unfold Oper.wp execOp
  simp only [ho, hx]
  go_simp
  exact hK
theorem t_ky1 (x : Operand) (g : Nat) (ho : o.op = .fieldAddr 31 x 1) (hx : a.eval x = .pointer (some ⟨g, 1, none⟩)) (hK : K (a.put o.dst (.pointer (some ⟨g, 6, none⟩))) w) : o.wp Try.prog a w K Q := by
  unfold Oper.wp execOp
  simp only [ho, hx]
  go_simp
  exact hK
theorem t_ky2 (x : Operand) (g : Nat) (ho : o.op = .fieldAddr 31 x 2) (hx : a.eval x = .pointer (some ⟨g, 1, none⟩)) (hK : K (a.put o.dst (.pointer (some ⟨g, 11, none⟩))) w) : o.wp Try.prog a w K Q := by
  unfold Oper.wp execOp
  simp only [ho, hx]
  go_simp
  exact hK
theorem t_ky3 (x : Operand) (g : Nat) (ho : o.op = .fieldAddr 31 x 3) (hx : a.eval x = .pointer (some ⟨g, 1, none⟩)) (hK : K (a.put o.dst (.pointer (some ⟨g, 12, none⟩))) w) : o.wp Try.prog a w K Q := by
  unfold Oper.wp execOp
  simp only [ho, hx]
  go_simp
  exact hK
theorem t_ky4 (x : Operand) (g : Nat) (ho : o.op = .fieldAddr 31 x 4) (hx : a.eval x = .pointer (some ⟨g, 1, none⟩)) (hK : K (a.put o.dst (.pointer (some ⟨g, 13, none⟩))) w) : o.wp Try.prog a w K Q := by
  unfold Oper.wp execOp
  simp only [ho, hx]
  go_simp
  exact hK
theorem t_ad0 (x : Operand) (g : Nat) (ho : o.op = .fieldAddr 29 x 0) (hx : a.eval x = .pointer (some ⟨g, 1, none⟩)) (hK : K (a.put o.dst (.pointer (some ⟨g, 1, none⟩))) w) : o.wp Try.prog a w K Q := by
  unfold Oper.wp execOp
  simp only [ho, hx]
  go_simp
  exact hK
theorem t_c_adI (x : Operand) (x0 : Value) (ts : Array TypeId) (ho : o.op = .call { callee := .value (.func 107), args := #[x], argTypes := ts }) (h0 : a.eval x = x0)
    (h : Calls Try.prog 107 #[x0] w fun e w' => ∃ v, e = .returned v ∧ K (a.put o.dst v) w') : o.wp Try.prog a w K Q := by
  unfold Oper.wp execOp
  simp only [ho, resolve, List.map_toArray, List.map_cons, List.map_nil, h0, show ∀ f, a.eval (.func f) = .func (.func f) #[] #[] from fun _ => rfl]
  go_simp
  exact h.mono fun e w' ⟨u, he, hk⟩ => by subst he; exact hk
theorem t_c_adS (x : Operand) (x0 : Value) (ts : Array TypeId) (ho : o.op = .call { callee := .value (.func 104), args := #[x], argTypes := ts }) (h0 : a.eval x = x0)
    (h : Calls Try.prog 104 #[x0] w fun e w' => ∃ v, e = .returned v ∧ K (a.put o.dst v) w') : o.wp Try.prog a w K Q := by
  unfold Oper.wp execOp
  simp only [ho, resolve, List.map_toArray, List.map_cons, List.map_nil, h0, show ∀ f, a.eval (.func f) = .func (.func f) #[] #[] from fun _ => rfl]
  go_simp
  exact h.mono fun e w' ⟨u, he, hk⟩ => by subst he; exact hk
theorem t_c_p16I (x : Operand) (x0 : Value) (ts : Array TypeId) (ho : o.op = .call { callee := .value (.func 108), args := #[x], argTypes := ts }) (h0 : a.eval x = x0)
    (h : Calls Try.prog 108 #[x0] w fun e w' => ∃ v, e = .returned v ∧ K (a.put o.dst v) w') : o.wp Try.prog a w K Q := by
  unfold Oper.wp execOp
  simp only [ho, resolve, List.map_toArray, List.map_cons, List.map_nil, h0, show ∀ f, a.eval (.func f) = .func (.func f) #[] #[] from fun _ => rfl]
  go_simp
  exact h.mono fun e w' ⟨u, he, hk⟩ => by subst he; exact hk
theorem t_c_p16S (x : Operand) (x0 : Value) (ts : Array TypeId) (ho : o.op = .call { callee := .value (.func 105), args := #[x], argTypes := ts }) (h0 : a.eval x = x0)
    (h : Calls Try.prog 105 #[x0] w fun e w' => ∃ v, e = .returned v ∧ K (a.put o.dst v) w') : o.wp Try.prog a w K Q := by
  unfold Oper.wp execOp
  simp only [ho, resolve, List.map_toArray, List.map_cons, List.map_nil, h0, show ∀ f, a.eval (.func f) = .func (.func f) #[] #[] from fun _ => rfl]
  go_simp
  exact h.mono fun e w' ⟨u, he, hk⟩ => by subst he; exact hk
end
end Go.Proofs.Ytmfkpiclpkeemaa
