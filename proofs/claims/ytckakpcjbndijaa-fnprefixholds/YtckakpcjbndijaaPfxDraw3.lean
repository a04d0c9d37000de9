/-
  The model's draws of the laws about prefixes: whatever is drawn is a prefix, two prefixes, a prefix and an address; nothing old has turned.
-/
import Derived.Test.YtckakpcjbndijaaPfxDraw2
import Derived.Test.YtckakpcjbndijaaAddrOf2
namespace Go.Proofs.Ytckakpcjbndijaa
open Go.RowKit

theorem belowSet6 {w a : World} {g : Nat} {v0 v1 v2 v3 v4 v5 : Value} (h : Below w.heap.size w a) (hg : w.heap.size ≤ g) : Below w.heap.size w ((((((a.setCell ⟨g, 0, none⟩ v0).setCell ⟨g, 1, none⟩ v1).setCell ⟨g, 2, none⟩ v2).setCell ⟨g, 3, none⟩ v3).setCell ⟨g, 4, none⟩ v4).setCell ⟨g, 5, none⟩ v5) :=
  (((((h.setCell (p := ⟨g, 0, none⟩) hg _).setCell (p := ⟨g, 1, none⟩) hg _).setCell (p := ⟨g, 2, none⟩) hg _).setCell (p := ⟨g, 3, none⟩) hg _).setCell (p := ⟨g, 4, none⟩) hg _).setCell (p := ⟨g, 5, none⟩) hg _

theorem pick1 (w : World) (g : Nat) : Calls Try.prog 49 #[.pointer (some ⟨g, 0, none⟩), .int .i64 1] w fun e w' => e = .returned (.int .i64 0) ∧ w = w' := by
  go_enter Try.func49, Try.ntmps49
  go_wp2
  go_ret
  exact ⟨rfl, rfl⟩
theorem pickS (w : World) (g : Nat) (A : Option Addr) (c : Nat) (bs : List UInt8) (t : Nat) (m : Int) (hm : 1 ≤ m) (hmb : m ≤ 1099511627776) (hc : Cur w g A c bs t) (ht : t ≤ 1099511627776) :
    Calls Try.prog 49 #[.pointer (some ⟨g, 0, none⟩), .int .i64 m] w fun e w' => ∃ (x : Int) (t' : Nat), e = .returned (.int .i64 x) ∧ 0 ≤ x ∧ x ≤ m - 1 ∧ t' ≤ t + 1 ∧ Cur w' g A c bs t' ∧ w.grownBy w' (some g) := by
  by_cases h : m = 1
  · subst h
    refine (pick1 w g).mono ?_
    rintro e w1 ⟨rfl, rfl⟩
    exact ⟨0, t, rfl, by omega, by omega, by omega, hc, grown_refl w _⟩
  · refine (pickC w g A c bs t m (by omega) hmb hc ht).mono ?_
    rintro e w1 ⟨x, rfl, x0, x1, hc1, hg1⟩
    exact ⟨x, t + 1, rfl, x0, x1, Nat.le_refl _, hc1, hg1⟩
theorem Pf.len_of {p : Pf} (h : p.ok = true) : 0 ≤ p.len ∧ p.len ≤ 128 := by
  simp only [Pf.ok, Bool.or_eq_true, Bool.and_eq_true, decide_eq_true_eq] at h
  rcases h with h | ⟨⟨_, h0, h1⟩, _⟩
  · rw [h]; exact ⟨by decide, by decide⟩
  · have := bits_bd p.base; omega

/-- The block of a prefix, of an address. -/
def rowP (p : Pf) : Option Obj := some (.cells #[.int .i64 p.base.k, .int .i64 p.base.a, .int .i64 p.base.b, .int .i64 p.base.c, .int .i64 p.base.d, .int .i64 p.len] 43 (0, 0))
def rowA (x : Ad) : Option Obj := some (.cells #[.int .i64 x.k, .int .i64 x.a, .int .i64 x.b, .int .i64 x.c, .int .i64 x.d] 25 (0, 0))
theorem set_other6 {w : World} {g r : Nat} {v0 v1 v2 v3 v4 v5 : Value} (h : r ≠ g) : ((((((w.setCell ⟨g, 0, none⟩ v0).setCell ⟨g, 1, none⟩ v1).setCell ⟨g, 2, none⟩ v2).setCell ⟨g, 3, none⟩ v3).setCell ⟨g, 4, none⟩ v4).setCell ⟨g, 5, none⟩ v5).heap[r]? = w.heap[r]? := by
  rw [heap_setCell_other _ ⟨g, 5, none⟩ r _ h, heap_setCell_other _ ⟨g, 4, none⟩ r _ h, heap_setCell_other _ ⟨g, 3, none⟩ r _ h, heap_setCell_other _ ⟨g, 2, none⟩ r _ h, heap_setCell_other _ ⟨g, 1, none⟩ r _ h, heap_setCell_other _ ⟨g, 0, none⟩ r _ h]
theorem set_other5 {w : World} {g r : Nat} {v0 v1 v2 v3 v4 : Value} (h : r ≠ g) : (((((w.setCell ⟨g, 0, none⟩ v0).setCell ⟨g, 1, none⟩ v1).setCell ⟨g, 2, none⟩ v2).setCell ⟨g, 3, none⟩ v3).setCell ⟨g, 4, none⟩ v4).heap[r]? = w.heap[r]? := by
  rw [heap_setCell_other _ ⟨g, 4, none⟩ r _ h, heap_setCell_other _ ⟨g, 3, none⟩ r _ h, heap_setCell_other _ ⟨g, 2, none⟩ r _ h, heap_setCell_other _ ⟨g, 1, none⟩ r _ h, heap_setCell_other _ ⟨g, 0, none⟩ r _ h]
/-- What stands while two prefixes are handed back. -/
def InPP (W : World) (bp bq r s : Nat) (w : World) : Prop := (∃ p, w.heap[bp]? = rowP p) ∧ (∃ p, w.heap[bq]? = rowP p) ∧ (∃ p, w.heap[r]? = rowP p) ∧ (∃ p, w.heap[s]? = rowP p) ∧ Below W.heap.size W w
def InPA (W : World) (bp bq r s : Nat) (w : World) : Prop := (∃ p, w.heap[bp]? = rowP p) ∧ (∃ p, w.heap[bq]? = rowA p) ∧ (∃ p, w.heap[r]? = rowP p) ∧ (∃ p, w.heap[s]? = rowA p) ∧ Below W.heap.size W w
def GPP (j : Nat) (v : Value) : Prop := match j with
  | 0 => ∃ p : Pf, v = .agg #[.int .i64 p.base.k, .int .i64 p.base.a, .int .i64 p.base.b, .int .i64 p.base.c, .int .i64 p.base.d, .int .i64 p.len]
  | 1 => ∃ p : Pf, v = .agg #[.int .i64 p.base.k, .int .i64 p.base.a, .int .i64 p.base.b, .int .i64 p.base.c, .int .i64 p.base.d, .int .i64 p.len]
  | _ => True
def GPA (j : Nat) (v : Value) : Prop := match j with
  | 0 => ∃ p : Pf, v = .agg #[.int .i64 p.base.k, .int .i64 p.base.a, .int .i64 p.base.b, .int .i64 p.base.c, .int .i64 p.base.d, .int .i64 p.len]
  | 1 => ∃ p : Ad, v = .agg #[.int .i64 p.k, .int .i64 p.a, .int .i64 p.b, .int .i64 p.c, .int .i64 p.d]
  | _ => True
section
variable {o : Oper} {a : Act} {w : World} {K : Act → World → Prop} {Q : Exit → Act → World → Prop}
theorem s_loadP (t b : Nat) (p : Pf) (ho : o.op = .load 43 (.tmp t)) (ht : a.eval (.tmp t) = .pointer (some ⟨b, 0, none⟩)) (hr : w.heap[b]? = rowP p) (hK : K (a.put o.dst (.agg #[.int .i64 p.base.k, .int .i64 p.base.a, .int .i64 p.base.b, .int .i64 p.base.c, .int .i64 p.base.d, .int .i64 p.len])) w) : o.wp Try.prog a w K Q := by
  obtain ⟨⟨c0, c1, c2, c3, c4, c5⟩, _⟩ := row6d hr
  clear hr
  unfold Oper.wp execOp
  simp only [ho, ht]
  go_simp
  exact hK
theorem s_loadA (t b : Nat) (p : Ad) (ho : o.op = .load 25 (.tmp t)) (ht : a.eval (.tmp t) = .pointer (some ⟨b, 0, none⟩)) (hr : w.heap[b]? = rowA p) (hK : K (a.put o.dst (.agg #[.int .i64 p.k, .int .i64 p.a, .int .i64 p.b, .int .i64 p.c, .int .i64 p.d])) w) : o.wp Try.prog a w K Q := by
  obtain ⟨⟨c0, c1, c2, c3, c4⟩, _⟩ := row5 hr
  clear hr
  unfold Oper.wp execOp
  simp only [ho, ht]
  go_simp
  exact hK
theorem s_storeP (x y : Operand) (r : Nat) (z z' : Pf) (ho : o.op = .store 43 x y) (hx : a.eval x = .pointer (some ⟨r, 0, none⟩)) (hy : a.eval y = .agg #[.int .i64 z.base.k, .int .i64 z.base.a, .int .i64 z.base.b, .int .i64 z.base.c, .int .i64 z.base.d, .int .i64 z.len]) (hr : w.heap[r]? = rowP z')
    (hK : K (a.put o.dst undef) ((((((w.setCell ⟨r, 0, none⟩ (.int .i64 z.base.k)).setCell ⟨r, 1, none⟩ (.int .i64 z.base.a)).setCell ⟨r, 2, none⟩ (.int .i64 z.base.b)).setCell ⟨r, 3, none⟩ (.int .i64 z.base.c)).setCell ⟨r, 4, none⟩ (.int .i64 z.base.d)).setCell ⟨r, 5, none⟩ (.int .i64 z.len))) : o.wp Try.prog a w K Q := by
  obtain ⟨⟨c0, c1, c2, c3, c4, c5⟩, f0, f1, f2, f3, f4, f5⟩ := row6d hr
  clear hr
  unfold Oper.wp execOp
  simp only [ho, hx, hy]
  go_simp
  exact hK
end
theorem res_cell_cell {fn : Func} {p q : Tmp} {ty tz : TypeId} (h : fn.results = #[.cell p ty, .cell q tz]) (tmps : Array Value) (P : Program) (w : World) (g k : Nat) (cs ds : Array Value)
    (hp : tmps.getD p undef = .pointer (some ⟨g, 0, none⟩)) (hq : tmps.getD q undef = .pointer (some ⟨k, 0, none⟩)) (hld : (loadVar ty ⟨g, 0, none⟩).run P w = .ok (.agg cs) w) (hle : (loadVar tz ⟨k, 0, none⟩).run P w = .ok (.agg ds) w) :
    (results fn tmps).run P w = .ok (.tuple #[.agg cs, .agg ds]) w := by
  have e : (results fn tmps).run P w = ((asAddr (tmps.getD p undef)).run P w).andThen fun a w₁ => ((loadVar ty a).run P w₁).andThen fun v w₂ => ((asAddr (tmps.getD q undef)).run P w₂).andThen fun b w₃ => ((loadVar tz b).run P w₃).andThen fun u w₄ => .ok (.tuple #[v, u]) w₄ := by
    simp only [results, h]
    simp [Sem.run_bind, Result.andThen]
  rw [e, hp, hq]
  simp [asAddr, Result.andThen, hld, hle]
def TwoPf (w : World) (e : Ending) (w' : World) : Prop := ∃ p q : Pf, e = .returned (.tuple #[.agg #[.int .i64 p.base.k, .int .i64 p.base.a, .int .i64 p.base.b, .int .i64 p.base.c, .int .i64 p.base.d, .int .i64 p.len], .agg #[.int .i64 q.base.k, .int .i64 q.base.a, .int .i64 q.base.b, .int .i64 q.base.c, .int .i64 q.base.d, .int .i64 q.len]]) ∧ Below w.heap.size w w'
def PfAd (w : World) (e : Ending) (w' : World) : Prop := ∃ (p : Pf) (x : Ad), e = .returned (.tuple #[.agg #[.int .i64 p.base.k, .int .i64 p.base.a, .int .i64 p.base.b, .int .i64 p.base.c, .int .i64 p.base.d, .int .i64 p.len], .agg #[.int .i64 x.k, .int .i64 x.a, .int .i64 x.b, .int .i64 x.c, .int .i64 x.d]]) ∧ Below w.heap.size w w'
end Go.Proofs.Ytckakpcjbndijaa
