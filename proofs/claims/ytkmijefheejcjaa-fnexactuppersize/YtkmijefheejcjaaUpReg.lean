/-
  What the laws on upper layers share: the comparison with a new copy.
-/
import Derived.Test.YtkmijefheejcjaaUp2
import Derived.Test.YtkmijefheejcjaaUp3
namespace Go.Proofs.Ytkmijefheejcjaa
set_option maxRecDepth 100000
open Go.RowKit

theorem toUp_steps : Steps1 41 := by
  intro o a w K Q t u ts ho ht h
  unfold Oper.wp execOp
  simp only [ho, resolve, List.map_toArray, List.map_cons, List.map_nil, ht, show ∀ f, a.eval (.func f) = .func (.func f) #[] #[] from fun _ => rfl]
  go_simp
  exact h.mono fun e w' ⟨u, he, hk⟩ => by subst he; exact hk
theorem eqUp_steps : Steps2 43 := by
  intro o a w K Q t s u v ts ho ht hs h
  unfold Oper.wp execOp
  simp only [ho, resolve, List.map_toArray, List.map_cons, List.map_nil, ht, hs, show ∀ f, a.eval (.func f) = .func (.func f) #[] #[] from fun _ => rfl]
  go_simp
  exact h.mono fun e w' ⟨u, he, hk⟩ => by subst he; exact hk

/-- A copy of an upper layer, as the comparison wants it. -/
def UpCp (x : Uh) (os bs : List UInt8) (n m : Nat) (w : World) (u : Value) : Prop :=
  ∃ A c D d, u = .agg #[.int .i64 x.kind, .int .i64 x.sport, .int .i64 x.dport, .int .i64 x.seq, .int .i64 x.ack, .int .i64 x.bits, .int .i64 x.window, .int .i64 x.urgent, .int .i64 x.ty, .int .i64 x.code, .int .i64 x.rest, .bool x.nosum, .slice A n c, .slice D m d] ∧ RB w w.heap.size A os ∧ RB w w.heap.size D bs
theorem UpCp.on {x : Uh} {os bs : List UInt8} {n m : Nat} (w w' : World) (u : Value) (hb : Below w.heap.size w w') (h : UpCp x os bs n m w u) : UpCp x os bs n m w' u := by
  obtain ⟨A, c, D, d, e, r, s⟩ := h
  exact ⟨A, c, D, d, e, (r.below hb).more hb.size, (s.below hb).more hb.size⟩

/-- The whole comparison of an upper layer with a new copy of the argument. -/
theorem sameUpRegion {ops : Array Oper} {id : Nat} {a : Act} {w : World} {Q : Exit → Act → World → Prop} (N s1 s5 p g1 g5 : Nat) (o0 o1 o2 o3 o4 : Oper) (ts2 ts3 : Array TypeId) (ty4 : TypeId) (hops : ops = #[o0, o1, o2, o3, o4]) (hf : formB ops N [s1, s5] = true) (hN : a.tmps.size = N) (hp : p + 5 ≤ N)
    (e0 : o0.op = .load 38 (.tmp s5) ∧ o0.dst = some p) (e1 : o1.op = .load 52 (.tmp s1) ∧ o1.dst = some (p + 1)) (e2 : o2.op = .call { callee := .value (.func 41), args := #[.tmp (p + 1)], argTypes := ts2 } ∧ o2.dst = some (p + 2))
    (e3 : o3.op = .call { callee := .value (.func 43), args := #[.tmp p, .tmp (p + 2)], argTypes := ts3 } ∧ o3.dst = some (p + 3)) (e4 : o4.op = .unOp .not ty4 (.tmp (p + 3)) ∧ o4.dst = some (p + 4))
    (n2 : (needOf ops 2).contains (1, p + 1) = true) (n3 : (needOf ops 3).contains (0, p) = true) (n3' : (needOf ops 3).contains (2, p + 2) = true) (n4 : (needOf ops 4).contains (3, p + 3) = true)
    (hs1 : a.tmps.getD s1 undef = .pointer (some ⟨g1, 0, none⟩)) (hs5 : a.tmps.getD s5 undef = .pointer (some ⟨g5, 0, none⟩))
    (x : Uh) (A D E G : Option Addr) (n c m d e g : Nat) (os bs : List UInt8)
    (hq1 : w.heap[g1]? = some (.cells #[.int .i64 x.kind, .int .i64 x.sport, .int .i64 x.dport, .int .i64 x.seq, .int .i64 x.ack, .int .i64 x.bits, .int .i64 x.window, .int .i64 x.urgent, .int .i64 x.ty, .int .i64 x.code, .int .i64 x.rest, .bool x.nosum, .slice A n c, .slice D m d] 52 (0, 0))) (hq5 : w.heap[g5]? = some (.cells #[.int .i64 x.kind, .int .i64 x.sport, .int .i64 x.dport, .int .i64 x.seq, .int .i64 x.ack, .int .i64 x.bits, .int .i64 x.window, .int .i64 x.urgent, .int .i64 x.ty, .int .i64 x.code, .int .i64 x.rest, .bool x.nosum, .slice E n e, .slice G m g] 38 (0, 0)))
    (rA : RB w w.heap.size A os) (rD : RB w w.heap.size D bs) (rE : RB w w.heap.size E os) (rG : RB w w.heap.size G bs) (hl : os.length = n) (hm : bs.length = m) (hn : n ≤ 1048576) (hm2 : m ≤ 1048576)
    (h : ∀ w' u, Below w.heap.size w w' → Q .normal (((((a.put (some p) (.agg #[.int .i64 x.kind, .int .i64 x.sport, .int .i64 x.dport, .int .i64 x.seq, .int .i64 x.ack, .int .i64 x.bits, .int .i64 x.window, .int .i64 x.urgent, .int .i64 x.ty, .int .i64 x.code, .int .i64 x.rest, .bool x.nosum, .slice E n e, .slice G m g])).put (some (p + 1)) (.agg #[.int .i64 x.kind, .int .i64 x.sport, .int .i64 x.dport, .int .i64 x.seq, .int .i64 x.ack, .int .i64 x.bits, .int .i64 x.window, .int .i64 x.urgent, .int .i64 x.ty, .int .i64 x.code, .int .i64 x.rest, .bool x.nosum, .slice A n c, .slice D m d])).put (some (p + 2)) u).put (some (p + 3)) (.bool true)).put (some (p + 4)) (.bool false)) w') :
    (Code.region id ops true).wp Try.prog Q a w := by
  refine same_regionZ toUp_steps eqUp_steps N s1 s5 p g1 g5 52 38 o0 o1 o2 o3 o4 ts2 ts3 ty4 hops hf hN hp e0 e1 e2 e3 e4 n2 n3 n3' n4 hs1 hs5 _ _ (UpCp x os bs n m) (fun v v' u hb hc => hc.on v v' u hb)
    (fun v hv => run_loadVar_row _ _ _ _ _ (0, 0) _ (K.below hv hq1) Try.underlying52 rfl info_lup) (fun v hv => run_loadVar_row _ _ _ _ _ (0, 0) _ (K.below hv hq5) Try.underlying38 rfl info_up) ?_ ?_ h
  · intro v hv
    refine (toUpC x A D n c m d os bs v ((rA.below hv).more hv.size) hl hn ((rD.below hv).more hv.size) hm hm2).mono ?_
    rintro e' v' ⟨A6, c6, D6, d6, rfl, o6, p6, _, b6⟩
    exact ⟨_, rfl, ⟨A6, c6, D6, d6, rfl, RB.of_own o6, RB.of_own p6⟩, b6⟩
  · rintro v u hv ⟨A6, c6, D6, d6, rfl, r6, s6⟩
    exact eqUpC x E G A6 D6 n e m g c6 d6 os bs v ((rE.below hv).more hv.size) r6 hl hn ((rG.below hv).more hv.size) s6 hm hm2
end Go.Proofs.Ytkmijefheejcjaa
