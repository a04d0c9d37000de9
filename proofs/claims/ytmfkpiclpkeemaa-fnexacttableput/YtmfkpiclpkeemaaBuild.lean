/-
  A slice of bytes that is being built by appending, beside what must be kept.
-/
import Derived.Test.YtmfkpiclpkeemaaRegThenP
import Derived.Test.YtmfkpiclpkeemaaRegOwn
import Derived.Test.YtmfkpiclpkeemaaCells
import Derived.Test.YtmfkpiclpkeemaaApp
namespace Go.Proofs.Ytmfkpiclpkeemaa
set_option maxRecDepth 100000
open Go.RowKit

/-- A slice of N bytes that reads as L and is owned from block b0 on; all blocks below b0 are as in W. -/
structure Bd (W : World) (b0 : Nat) (w : World) (A : Option Addr) (N c : Nat) (L : List UInt8) : Prop where
  own : w.ownsRow b0 5 1 (.slice A N c) N (cellsOf L)
  keep : Below b0 W w
  low : b0 ≤ w.heap.size
  len : L.length = N

section
variable {W w w1 : World} {b0 : Nat} {A : Option Addr} {N c : Nat} {L : List UInt8}
theorem Bd.call (h : Bd W b0 w A N c L) (b : Below w.heap.size w w1) : Bd W b0 w1 A N c L := ⟨own_below h.own b, h.keep.trans (b.mono h.low), Nat.le_trans h.low b.size, h.len⟩
theorem Bd.row (h : Bd W b0 w A N c L) {g : Nat} {o : Obj} (hr : W.heap[g]? = some o) (hg : g < b0) : w.heap[g]? = some o := K.on h.keep hg hr
theorem Bd.rb (h : Bd W b0 w A N c L) {D : Option Addr} {ds : List UInt8} {B : Nat} (r : RB W B D ds) (hB : B ≤ b0) : RB w B D ds := r.below (h.keep.mono hB)
theorem Bd.to (h : Bd W b0 w A N c L) {M : Nat} {L' : List UInt8} (e : L = L') (hM : N = M) : Bd W b0 w A M c L' := by
  subst e
  subst hM
  exact h
theorem Bd.out {E : World} (h : Bd W b0 w A N c L) (hE : Below E.heap.size E W) (hb : E.heap.size ≤ b0) : w.ownsRow E.heap.size 5 1 (.slice A N c) N (cellsOf L) ∧ Below E.heap.size E w := ⟨own_base h.own hb, hE.trans (h.keep.mono hb)⟩
end

theorem wp_append_bd {P : Program} {o : Oper} {a : Act} {w : World} {K : Act → World → Prop} {Q : Exit → Act → World → Prop} {W : World} {b0 : Nat} {A : Option Addr} {N c : Nat} {L : List UInt8} (hP : P = Try.prog) (h0 : Bd W b0 w A N c L) (s x : Operand)
    (ho : o.op = .call { callee := .builtin .append, args := #[s, x], argTypes := #[65, 65] }) (hs : a.eval s = .slice A N c)
    (B : Nat) (D : Option Addr) (m d : Nat) (ds : List UInt8) (hx : a.eval x = .slice D m d) (hm : ds.length = m) (hr : RB w B D ds) (hn : N + m ≤ 67108864)
    (h : ∀ A2 c2 w', Bd W b0 w' A2 (N + m) c2 (L ++ ds) → w.grownBy w' (Value.slice A N c).ownBlock → K (a.put o.dst (.slice A2 (N + m) c2)) w') : o.wp P a w K Q := by
  subst hP
  have hl := h0.len
  obtain ⟨v', w', hrun, h2, h3, h4⟩ := run_append_b w o.type b0 (.slice A N c) L (by rw [hl]; exact h0.own) B D m d ds hm hr (by omega) h0.low
  unfold Oper.wp execOp
  simp only [ho, resolve, invoke, builtin, Sem.run_bind, Sem.run_pure, Result.andThen_ok, List.map_toArray, List.map_cons, List.map_nil, hs, hx, hrun]
  rw [List.length_append, hl, hm] at h2
  obtain ⟨A2, c2, rfl⟩ := own_form h2
  exact h A2 c2 w' ⟨h2, h0.keep.grown h3 h0.low (fun k hk => (h0.own.lt k hk).1), Nat.le_trans h0.low h3.size, by rw [List.length_append, hl, hm]⟩ h3
theorem wpList_append_bd {ops : Array Oper} {rest : List Oper} {o : Oper} {a : Act} {w : World} {Q : Exit → Act → World → Prop} {W : World} {b0 : Nat} {A : Option Addr} {N c : Nat} {L : List UInt8} (hgd : o.guard = none) (h0 : Bd W b0 w A N c L) (s x : Operand)
    (ho : o.op = .call { callee := .builtin .append, args := #[s, x], argTypes := #[65, 65] }) (hs : a.eval s = .slice A N c)
    (B : Nat) (D : Option Addr) (m d : Nat) (ds : List UInt8) (hx : a.eval x = .slice D m d) (hm : ds.length = m) (hr : RB w B D ds) (hn : N + m ≤ 67108864) (M : Nat) (hM : N + m = M)
    (h : ∀ A2 c2 w', Bd W b0 w' A2 M c2 (L ++ ds) → wpList Try.prog ops Q rest (a.put o.dst (.slice A2 M c2)) w') : wpList Try.prog ops Q (o :: rest) a w := by
  subst hM
  exact wpList_plain hgd fun K hK => wp_append_bd rfl h0 s x ho hs B D m d ds hx hm hr hn fun A2 c2 w' hb _ => hK _ _ (h A2 c2 w' hb)

section
variable {P : Program} {ops : Array Oper} {Q : Exit → Act → World → Prop}
/-- A region with one append (operation p) among its first operations, which leave values and rows of their own besides. -/
theorem wp_region_apps {id : Nat} {a : Act} {w : World} (hmx : P.follows .mixedOrders = true) (k n : Nat) (L : List (Nat × Nat)) (R : List Oper) (F : List Fo) (hf : thenB ops n k = true) (hL : dstsOf ops k = L) (hR : ops.toList.drop k = R) (p dp : Nat) (hpk : p < k) (hpL : (p, dp) ∈ L) (hn : a.tmps.size = n)
    (hF : ∀ f ∈ F, match f with | .val _ => True | .own b _ _ => b = w.heap.size | .any => True | .rb _ _ => False)
    {W : World} {b0 : Nat} {A0 : Option Addr} {n0 c0 : Nat} {L0 : List UInt8} (h0 : Bd W b0 w A0 n0 c0 L0) (n1 : Nat) (L1 : List UInt8) (hl1 : L1.length = n1)
    (hop : ∀ (j : Nat) o, j < k → j ≠ p → ops[j]? = some o → ∀ a' v K, (∀ t, (∀ q ∈ L, q.2 ≠ t) → a'.tmps.getD t undef = a.tmps.getD t undef) → (∀ q ∈ needOf ops j, q.1 ≠ p → (F.getD q.1 .any).holds v (a'.tmps.getD q.2 undef)) → Below b0 W v → w.heap.size ≤ v.heap.size →
      (∀ u v', (F.getD j .any).holds v' u → Below v.heap.size v v' → K (a'.put o.dst u) v') → o.wp P a' v K Q)
    (hpp : ∀ o, ops[p]? = some o → ∀ a' v K, (∀ t, (∀ q ∈ L, q.2 ≠ t) → a'.tmps.getD t undef = a.tmps.getD t undef) → (∀ q ∈ needOf ops p, q.1 ≠ p → (F.getD q.1 .any).holds v (a'.tmps.getD q.2 undef)) → Bd W b0 v A0 n0 c0 L0 → w.heap.size ≤ v.heap.size →
      (∀ A c v', Bd W b0 v' A n1 c L1 → v.grownBy v' (Value.slice A0 n0 c0).ownBlock → K (a'.put o.dst (.slice A n1 c)) v') → o.wp P a' v K Q)
    (hend : ∀ (f : Nat → Value) v A c, (∀ q ∈ L, q.1 ≠ p → (F.getD q.1 .any).holds v (f q.1)) → f p = .slice A n1 c → Bd W b0 v A n1 c L1 → wpList P ops Q R (L.foldl (fun b q => b.put (some q.2) (f q.1)) a) v) : (Code.region id ops true).wp P Q a w := by
  have hlt : ∀ k, (Value.slice A0 n0 c0).ownBlock = some k → k < w.heap.size := fun k hk => (h0.own.lt k hk).2
  have hFj : ∀ i (v v' : World) (u : Value), v.grownBy v' (Value.slice A0 n0 c0).ownBlock → (F.getD i .any).holds v u → (F.getD i .any).holds v' u := by
    intro i v v' u hg hh
    by_cases hi : i < F.length
    · have hm := hF (F.getD i .any) (by rw [List.getD_eq_getElem?_getD, List.getElem?_eq_getElem hi]; exact List.getElem_mem hi)
      generalize F.getD i .any = f at hm hh ⊢
      cases f with
      | val u => exact hh
      | rb n bs => exact hm.elim
      | any => trivial
      | own b n bs =>
        obtain ⟨A, c, e, r⟩ := hh
        try simp only at hm
        subst hm
        exact ⟨A, c, e, own_grown r hg (fun k hk e => by have := (r.lt k hk).1; have := hlt k e; omega)⟩
    · have : F.getD i .any = .any := by rw [List.getD_eq_getElem?_getD, List.getElem?_eq_none (by omega)]; rfl
      rw [this]
      trivial
  refine wp_region_thenP hmx k n L R hf hL hR
    (fun j b v u => if j = p then (b = true → ∃ A c, u = .slice A n1 c ∧ v.ownsRow b0 5 1 (.slice A n1 c) n1 (cellsOf L1)) else (F.getD j .any).holds v u)
    (fun b v => Below b0 W v ∧ b0 ≤ v.heap.size ∧ w.heap.size ≤ v.heap.size ∧ (b = false → v.ownsRow b0 5 1 (.slice A0 n0 c0) n0 (cellsOf L0))) p hpk hn ?_ ?_ ?_ ?_
  · exact ⟨⟨h0.keep.os, h0.keep.tape, h0.keep.output, h0.keep.size, h0.keep.block⟩, h0.low, Nat.le_refl _, fun _ => h0.own⟩
  · intro j o hj hjp ho b a' v K _ hk hnd hI hK
    refine hop j o hj hjp ho a' v K hk (fun q hq hqp => by have := hnd q hq; rwa [if_neg hqp] at this) hI.1 hI.2.2.1 (fun u v' hu hb => hK u v' (by rw [if_neg hjp]; exact hu) (fun i x hx => ?_) ⟨hI.1.trans (hb.mono hI.2.1), Nat.le_trans hI.2.1 hb.size, Nat.le_trans hI.2.2.1 hb.size, fun e => own_below (hI.2.2.2 e) hb⟩)
    by_cases hip : i = p
    · rw [if_pos hip] at hx ⊢
      intro hb1
      obtain ⟨A, c, e, r⟩ := hx hb1
      exact ⟨A, c, e, own_below r hb⟩
    · rw [if_neg hip] at hx ⊢
      exact Fo.on hb _ _ hx
  · intro o ho a' v K hk hnd hI hK
    refine hpp o ho a' v K hk (fun q hq hqp => by have := hnd q hq; rwa [if_neg hqp] at this) ⟨hI.2.2.2 rfl, hI.1, hI.2.1, h0.len⟩ hI.2.2.1 (fun A c v' hb hg => hK _ v' (by rw [if_pos rfl]; exact fun _ => ⟨A, c, rfl, hb.own⟩) (fun i u hip hu => ?_) ⟨hb.keep, hb.low, Nat.le_trans hI.2.2.1 hg.size, fun e => by cases e⟩)
    rw [if_neg hip] at hu ⊢
    exact hFj i v v' u hg hu
  · intro f v hf' hI
    have hp := hf' (p, dp) hpL
    simp only [if_true] at hp
    obtain ⟨A, c, e, r⟩ := hp trivial
    exact hend f v A c (fun q hq hqp => by have := hf' q hq; rwa [if_neg hqp] at this) e ⟨r, hI.1, hI.2.1, hl1⟩
theorem apps_of {j p : Nat} {F : List Fo} {v : World} {a' : Act} (hnd : ∀ q ∈ needOf ops j, q.1 ≠ p → (F.getD q.1 .any).holds v (a'.tmps.getD q.2 undef)) (i t : Nat) (h : (needOf ops j).contains (i, t) = true) (hi : i ≠ p) : (F.getD i .any).holds v (a'.eval (.tmp t)) :=
  hnd (i, t) (by simpa using h) hi
end
end Go.Proofs.Ytmfkpiclpkeemaa
