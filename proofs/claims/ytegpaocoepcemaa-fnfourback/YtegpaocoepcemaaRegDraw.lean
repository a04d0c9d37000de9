/-
  A region that draws its order, the first operations of which draw numbers off a cursor in one order and put values together; the others follow in their order.
-/
import Derived.Test.YtegpaocoepcemaaRegThenC
import Derived.Test.YtegpaocoepcemaaRegD
namespace Go.Proofs.Ytegpaocoepcemaa
set_option maxRecDepth 100000
open Go.RowKit

/-- What an operation leaves: the cursor's pointer, an integer, a row of integers, a pointer to an integer, a value, a block that was just made, anything. -/
inductive Fd where
  | cur | int (x : Int) | row (xs : List Int) | cellp (x : Int) | val (v : Value) | blk (o : Obj) | any
def Fd.holds (g B : Nat) : Fd → World → Value → Prop
  | .cur, _, v => v = .pointer (some ⟨g, 0, none⟩)
  | .int x, _, v => v = .int .i64 x
  | .row xs, w, v => ∃ b, v = .slice (some ⟨b, 0, none⟩) xs.length xs.length ∧ b ≠ g ∧ ∀ j x, xs[j]? = some x → w.cell? ⟨b, j, none⟩ = some (.int .i64 x)
  | .cellp x, w, v => ∃ b j, v = .pointer (some ⟨b, j, none⟩) ∧ b ≠ g ∧ w.cell? ⟨b, j, none⟩ = some (.int .i64 x)
  | .val u, _, v => v = u
  | .blk o, w, v => ∃ b, v = .pointer (some ⟨b, 0, none⟩) ∧ B ≤ b ∧ b ≠ g ∧ w.heap[b]? = some o
  | .any, _, _ => True
theorem Fd.on {g B : Nat} {w w' : World} (h : w.grownBy w' (some g)) (f : Fd) (v : Value) (hv : f.holds g B w v) : f.holds g B w' v := by
  have T : K.Turned g g w w' := K.Turned.of_grown h
  cases f with
  | row xs =>
    obtain ⟨b, h1, h2, h4⟩ := hv
    exact ⟨b, h1, h2, fun j x hx => T.cell h2 h2 (h4 j x hx)⟩
  | cellp x =>
    obtain ⟨b, j, h1, h2, hx⟩ := hv
    exact ⟨b, j, h1, h2, T.cell h2 h2 hx⟩
  | blk o =>
    obtain ⟨b, h1, h2, h3, h4⟩ := hv
    exact ⟨b, h1, h2, h3, K.kept h h4 (fun k hk => by cases hk; exact h3)⟩
  | _ => exact hv

section
variable {ops : Array Oper} {Q : Exit → Act → World → Prop}
theorem cur_stay {w : World} {g : Nat} {A : Option Addr} {c : Nat} {bs : List UInt8} {T S ch : List Nat} {j m : Nat} (h : ch.contains j = false) (hc : CurS w g A c bs (T.getD m 0) (S.getD m 0)) : CurS w g A c bs (T.getD (nextOf ch j m) 0) (S.getD (nextOf ch j m) 0) := by
  unfold nextOf
  rw [if_neg (by rw [h]; decide)]
  exact hc
theorem cur_go {w : World} {g : Nat} {A : Option Addr} {c : Nat} {bs : List UInt8} {T S ch : List Nat} {j m : Nat} (h : ch.contains j = true) (hc : CurS w g A c bs (T.getD (m + 1) 0) (S.getD (m + 1) 0)) : CurS w g A c bs (T.getD (nextOf ch j m) 0) (S.getD (nextOf ch j m) 0) := by
  unfold nextOf
  rw [if_pos h]
  exact hc
theorem wp_region_draws {id : Nat} {a : Act} {w : World} (k n : Nat) (L : List (Nat × Nat)) (F : List Fd) (ch : List Nat) (g : Nat) (A : Option Addr) (c : Nat) (bs : List UInt8) (T S : List Nat) (R : List Oper) (hf : thenB ops n k = true) (hL : dstsOf ops k = L) (hR : ops.toList.drop k = R) (hch : chainB ops ch = true) (hck : ch.all (fun j => decide (j < k)) = true) (hn : a.tmps.size = n)
    (h0 : CurS w g A c bs (T.getD 0 0) (S.getD 0 0))
    (hop : ∀ (j : Nat) o, j < k → ops[j]? = some o → ∀ m a' v K, (∀ t, (∀ p ∈ L, p.2 ≠ t) → a'.tmps.getD t undef = a.tmps.getD t undef) → (∀ p ∈ needOf ops j, (F.getD p.1 .any).holds g w.heap.size v (a'.tmps.getD p.2 undef)) → (∀ i, ch[i]? = some j → i = m) → CurS v g A c bs (T.getD m 0) (S.getD m 0) → w.grownBy v (some g) →
      (∀ u v', (F.getD j .any).holds g w.heap.size v' u → v.grownBy v' (some g) → CurS v' g A c bs (T.getD (nextOf ch j m) 0) (S.getD (nextOf ch j m) 0) → K (a'.put o.dst u) v') → o.wp Try.prog a' v K Q)
    (hend : ∀ (f : Nat → Value) v, (∀ p ∈ L, (F.getD p.1 .any).holds g w.heap.size v (f p.1)) → CurS v g A c bs (T.getD ch.length 0) (S.getD ch.length 0) → w.grownBy v (some g) → wpList Try.prog ops Q R (L.foldl (fun b p => b.put (some p.2) (f p.1)) a) v) : (Code.region id ops true).wp Try.prog Q a w := by
  refine wp_region_thenC (by kernel_rfl) k n L R hf hL hR ch hch hck (fun j v u => (F.getD j .any).holds g w.heap.size v u) (fun m v => CurS v g A c bs (T.getD m 0) (S.getD m 0) ∧ w.grownBy v (some g)) hn ⟨h0.drewN 1, ⟨rfl, rfl, rfl, Nat.le_refl _, fun _ _ _ => rfl⟩⟩ ?_ (fun f v hf hB => hend f v hf hB.1 hB.2)
  intro j o hj ho m a' v K hk hnd hm hI hK
  exact hop j o hj ho m a' v K hk hnd hm hI.1 hI.2 (fun u v' hu hg hc => hK u v' hu (fun i x hx => Fd.on hg _ _ hx) ⟨hc, grownBy_trans hI.2 hg⟩)
theorem draw_of {j : Nat} {F : List Fd} {g B : Nat} {v : World} {a' : Act} (hnd : ∀ p ∈ needOf ops j, (F.getD p.1 .any).holds g B v (a'.tmps.getD p.2 undef)) (i t : Nat) (h : (needOf ops j).contains (i, t) = true) : (F.getD i .any).holds g B v (a'.eval (.tmp t)) :=
  hnd (i, t) (by simpa using h)
theorem drawn_row (v : World) (g B : Nat) (hg : g < v.heap.size) (xs : List Int) (cs : Array Value) (hcs : cs = (xs.map fun x => Value.int .i64 x).toArray) (t : TypeId) (n : Nat) (hn : n = xs.length) : (Fd.row xs).holds g B (v.alloc (.cells cs t)) (.slice (some ⟨v.heap.size, 0, none⟩) n n) := by
  subst hn
  exact ⟨v.heap.size, rfl, by omega, fun j x hx => K.row_cells v xs cs hcs t j x hx⟩
end

section
variable {o : Oper} {a : Act} {w : World} {K : Act → World → Prop} {Q : Exit → Act → World → Prop}
theorem d_byte (x : Operand) (m : Int) (ho : o.op = .convert 3 5 x) (hx : a.eval x = .int .i64 m) (h0 : 0 ≤ m) (h1 : m ≤ 255) (hK : K (a.put o.dst (.int .u8 m)) w) : o.wp Try.prog a w K Q := by
  unfold Oper.wp execOp
  simp only [ho, hx]
  go_simp
  rw [show IntKind.u8.wrap m = m by rw [IntKind.wrap_u8]; omega]
  exact hK
theorem d_bytes (x : Operand) (g j : Nat) (v : Value) (ho : o.op = .load 28 x) (hx : a.eval x = .pointer (some ⟨g, j, none⟩)) (hc : w.cell? ⟨g, j, none⟩ = some v) (hK : K (a.put o.dst v) w) : o.wp Try.prog a w K Q := by
  unfold Oper.wp execOp
  simp only [ho, hx]
  go_simp
  exact hK
theorem d_idxB (x y : Operand) (g n c k : Nat) (ho : o.op = .indexAddr 28 x y) (hx : a.eval x = .slice (some ⟨g, 0, none⟩) n c) (hy : a.eval y = .int .i64 (k : Int)) (hk : k < n) (hK : K (a.put o.dst (.pointer (some ⟨g, k, none⟩))) w) : o.wp Try.prog a w K Q := by
  unfold Oper.wp execOp
  simp only [ho, hx, hy]
  go_simp
  exact hK
theorem d_four (x0 x1 x2 x3 x5 x6 : Operand) (m0 m1 m2 m3 m5 m6 : Int) (ho : o.op = .build 52 #[(0, x0), (1, x1), (2, x2), (3, x3), (5, x5), (6, x6)]) (h0 : a.eval x0 = .int .i64 m0) (h1 : a.eval x1 = .int .i64 m1) (h2 : a.eval x2 = .int .i64 m2) (h3 : a.eval x3 = .int .i64 m3) (h5 : a.eval x5 = .int .i64 m5) (h6 : a.eval x6 = .int .i64 m6)
    (hK : K (a.put o.dst (.agg #[.int .i64 m0, .int .i64 m1, .int .i64 m2, .int .i64 m3, .int .i64 0, .int .i64 m5, .int .i64 m6, .int .i64 0, .int .i64 0, .int .i64 0, .int .i64 0, .int .i64 0, .int .i64 0, .int .i64 0, .int .i64 0, .int .i64 0, .int .i64 0, .slice none 0 0, .slice none 0 0])) w) : o.wp Try.prog a w K Q := by
  unfold Oper.wp execOp
  simp only [ho, List.map_toArray, List.map_cons, List.map_nil, h0, h1, h2, h3, h5, h6]
  go_simp
  exact hK
theorem d_allocF (ho : o.op = .alloc 52) (hK : K (a.put o.dst (.pointer (some ⟨w.heap.size, 0, none⟩))) (w.alloc (.cells #[.int .i64 0, .int .i64 0, .int .i64 0, .int .i64 0, .int .i64 0, .int .i64 0, .int .i64 0, .int .i64 0, .int .i64 0, .int .i64 0, .int .i64 0, .int .i64 0, .int .i64 0, .int .i64 0, .int .i64 0, .int .i64 0, .int .i64 0, .slice none 0 0, .slice none 0 0] 52))) : o.wp Try.prog a w K Q := by
  unfold Oper.wp execOp
  simp only [ho]
  go_simp
  exact hK
theorem d_fldF9 (x : Operand) (g : Nat) (ho : o.op = .fieldAddr 52 x 9) (hx : a.eval x = .pointer (some ⟨g, 0, none⟩)) (hK : K (a.put o.dst (.pointer (some ⟨g, 17, none⟩))) w) : o.wp Try.prog a w K Q := by
  unfold Oper.wp execOp
  simp only [ho, hx]
  go_simp
  exact hK
end
end Go.Proofs.Ytegpaocoepcemaa
