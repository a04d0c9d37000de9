/-
  What the laws on IPv6 packets share: whole loads of an argument, a variable that is made and stored, the comparison with a new copy.
-/
import Derived.Test.YtegpaocoepcemaaSameReg
import Derived.Test.YtegpaocoepcemaaSix3
namespace Go.Proofs.Ytegpaocoepcemaa
set_option maxRecDepth 100000
open Go.RowKit

theorem info_lsix : (Try.prog.info? 30).map (·.size) = some 16 := by kernel_rfl
theorem loadLS {ops : Array Oper} {rest : List Oper} {o : Oper} {a : Act} {w : World} {Q : Exit → Act → World → Prop} (hgd : o.guard = none) (x : Operand) (ho : o.op = .load 30 x) (g : Nat) (hx : a.eval x = .pointer (some ⟨g, 0, none⟩)) {t : TypeId} {v0 v1 v2 v3 v4 v5 v6 v7 v8 v9 v10 v11 v12 v13 v14 v15 : Value}
    (hg : w.heap[g]? = some (.cells #[v0, v1, v2, v3, v4, v5, v6, v7, v8, v9, v10, v11, v12, v13, v14, v15] t (0, 0))) (h : wpList Try.prog ops Q rest (a.put o.dst (.agg #[v0, v1, v2, v3, v4, v5, v6, v7, v8, v9, v10, v11, v12, v13, v14, v15])) w) : wpList Try.prog ops Q (o :: rest) a w :=
  wpList_load_row hgd 30 x ho g hx t _ (0, 0) _ hg Try.underlying30 rfl info_lsix h
/-- A packet is stored into a variable that was just made. -/
theorem storeNewS {ops : Array Oper} {rest : List Oper} {o : Oper} {a : Act} {w : World} {Q : Exit → Act → World → Prop} (hgd : o.guard = none) (x y : Operand) (ho : o.op = .store 36 x y) {n0 n1 n2 n3 n4 n5 n6 n7 n8 n9 n10 n11 n12 n13 : Int} {A D : Option Addr} {l c m d : Nat} (hx : a.eval x = .pointer (some ⟨w.heap.size, 0, none⟩)) (hy : a.eval y = .agg #[.int .i64 n0, .int .i64 n1, .int .i64 n2, .int .i64 n3, .int .i64 n4, .int .i64 n5, .int .i64 n6, .int .i64 n7, .int .i64 n8, .int .i64 n9, .int .i64 n10, .int .i64 n11, .int .i64 n12, .int .i64 n13, .slice A l c, .slice D m d])
    (h : wpList Try.prog ops Q rest (a.put o.dst undef) (w.alloc (.cells #[.int .i64 n0, .int .i64 n1, .int .i64 n2, .int .i64 n3, .int .i64 n4, .int .i64 n5, .int .i64 n6, .int .i64 n7, .int .i64 n8, .int .i64 n9, .int .i64 n10, .int .i64 n11, .int .i64 n12, .int .i64 n13, .slice A l c, .slice D m d] 36))) : wpList Try.prog ops Q (o :: rest) a (w.alloc (.cells #[.int .i64 0, .int .i64 0, .int .i64 0, .int .i64 0, .int .i64 0, .int .i64 0, .int .i64 0, .int .i64 0, .int .i64 0, .int .i64 0, .int .i64 0, .int .i64 0, .int .i64 0, .int .i64 0, .slice none 0 0, .slice none 0 0] 36)) := by
  refine storeS hgd x y ho w.heap.size hx hy (K.new w _) ?_
  rw [World.setRow_alloc_new]
  exact h

theorem toSix_steps : Steps1 15 := by
  intro o a w K Q t u ts ho ht h
  unfold Oper.wp execOp
  simp only [ho, resolve, List.map_toArray, List.map_cons, List.map_nil, ht, show ∀ f, a.eval (.func f) = .func (.func f) #[] #[] from fun _ => rfl]
  go_simp
  exact h.mono fun e w' ⟨u, he, hk⟩ => by subst he; exact hk
theorem eqSix_steps : Steps2 17 := by
  intro o a w K Q t s u v ts ho ht hs h
  unfold Oper.wp execOp
  simp only [ho, resolve, List.map_toArray, List.map_cons, List.map_nil, ht, hs, show ∀ f, a.eval (.func f) = .func (.func f) #[] #[] from fun _ => rfl]
  go_simp
  exact h.mono fun e w' ⟨u, he, hk⟩ => by subst he; exact hk

/-- A copy of a packet, as the comparison wants it. -/
def SixCp (x : Sh) (es : List (Int × List UInt8)) (bs : List UInt8) (n m : Nat) (w : World) (u : Value) : Prop :=
  ∃ A c zs D d, u = .agg #[.int .i64 x.cls, .int .i64 x.label, .int .i64 x.hops, .int .i64 x.proto, .int .i64 x.src.k, .int .i64 x.src.a, .int .i64 x.src.b, .int .i64 x.src.c, .int .i64 x.src.d, .int .i64 x.dst.k, .int .i64 x.dst.a, .int .i64 x.dst.b, .int .i64 x.dst.c, .int .i64 x.dst.d, .slice A n c, .slice D m d] ∧ XR w w.heap.size A zs ∧ zs.map Ey.says = es ∧ RB w w.heap.size D bs
theorem SixCp.on {x : Sh} {es : List (Int × List UInt8)} {bs : List UInt8} {n m : Nat} (w w' : World) (u : Value) (hb : Below w.heap.size w w') (h : SixCp x es bs n m w u) : SixCp x es bs n m w' u := by
  obtain ⟨A, c, zs, D, d, e, r, hz, s⟩ := h
  exact ⟨A, c, zs, D, d, e, r.on hb, hz, (s.below hb).more hb.size⟩

/-- The whole comparison of a packet with a new copy of the argument. -/
theorem sameSixRegion {ops : Array Oper} {id : Nat} {a : Act} {w : World} {Q : Exit → Act → World → Prop} (N s1 s5 p g1 g5 : Nat) (o0 o1 o2 o3 o4 : Oper) (ts2 ts3 : Array TypeId) (ty4 : TypeId) (hops : ops = #[o0, o1, o2, o3, o4]) (hf : formB ops N [s1, s5] = true) (hN : a.tmps.size = N) (hp : p + 5 ≤ N)
    (e0 : o0.op = .load 36 (.tmp s5) ∧ o0.dst = some p) (e1 : o1.op = .load 30 (.tmp s1) ∧ o1.dst = some (p + 1)) (e2 : o2.op = .call { callee := .value (.func 15), args := #[.tmp (p + 1)], argTypes := ts2 } ∧ o2.dst = some (p + 2))
    (e3 : o3.op = .call { callee := .value (.func 17), args := #[.tmp p, .tmp (p + 2)], argTypes := ts3 } ∧ o3.dst = some (p + 3)) (e4 : o4.op = .unOp .not ty4 (.tmp (p + 3)) ∧ o4.dst = some (p + 4))
    (n2 : (needOf ops 2).contains (1, p + 1) = true) (n3 : (needOf ops 3).contains (0, p) = true) (n3' : (needOf ops 3).contains (2, p + 2) = true) (n4 : (needOf ops 4).contains (3, p + 3) = true)
    (hs1 : a.tmps.getD s1 undef = .pointer (some ⟨g1, 0, none⟩)) (hs5 : a.tmps.getD s5 undef = .pointer (some ⟨g5, 0, none⟩))
    (x : Sh) (A D E G : Option Addr) (n c m d e g : Nat) (ys zs : List Ey) (bs : List UInt8) (hz : zs.map Ey.says = ys.map Ey.says)
    (hq1 : w.heap[g1]? = some (.cells #[.int .i64 x.cls, .int .i64 x.label, .int .i64 x.hops, .int .i64 x.proto, .int .i64 x.src.k, .int .i64 x.src.a, .int .i64 x.src.b, .int .i64 x.src.c, .int .i64 x.src.d, .int .i64 x.dst.k, .int .i64 x.dst.a, .int .i64 x.dst.b, .int .i64 x.dst.c, .int .i64 x.dst.d, .slice A n c, .slice D m d] 30 (0, 0))) (hq5 : w.heap[g5]? = some (.cells #[.int .i64 x.cls, .int .i64 x.label, .int .i64 x.hops, .int .i64 x.proto, .int .i64 x.src.k, .int .i64 x.src.a, .int .i64 x.src.b, .int .i64 x.src.c, .int .i64 x.src.d, .int .i64 x.dst.k, .int .i64 x.dst.a, .int .i64 x.dst.b, .int .i64 x.dst.c, .int .i64 x.dst.d, .slice E n e, .slice G m g] 36 (0, 0)))
    (rA : XR w w.heap.size A ys) (rD : RB w w.heap.size D bs) (rE : XR w w.heap.size E zs) (rG : RB w w.heap.size G bs) (hl : ys.length = n) (hb : bodies ys ≤ 1048576) (hb2 : bodies zs ≤ 1048576) (hm : bs.length = m) (hn : n ≤ 1048576) (hm2 : m ≤ 1048576)
    (h : ∀ w' u, Below w.heap.size w w' → Q .normal (((((a.put (some p) (.agg #[.int .i64 x.cls, .int .i64 x.label, .int .i64 x.hops, .int .i64 x.proto, .int .i64 x.src.k, .int .i64 x.src.a, .int .i64 x.src.b, .int .i64 x.src.c, .int .i64 x.src.d, .int .i64 x.dst.k, .int .i64 x.dst.a, .int .i64 x.dst.b, .int .i64 x.dst.c, .int .i64 x.dst.d, .slice E n e, .slice G m g])).put (some (p + 1)) (.agg #[.int .i64 x.cls, .int .i64 x.label, .int .i64 x.hops, .int .i64 x.proto, .int .i64 x.src.k, .int .i64 x.src.a, .int .i64 x.src.b, .int .i64 x.src.c, .int .i64 x.src.d, .int .i64 x.dst.k, .int .i64 x.dst.a, .int .i64 x.dst.b, .int .i64 x.dst.c, .int .i64 x.dst.d, .slice A n c, .slice D m d])).put (some (p + 2)) u).put (some (p + 3)) (.bool true)).put (some (p + 4)) (.bool false)) w') :
    (Code.region id ops true).wp Try.prog Q a w := by
  refine same_regionZ toSix_steps eqSix_steps N s1 s5 p g1 g5 30 36 o0 o1 o2 o3 o4 ts2 ts3 ty4 hops hf hN hp e0 e1 e2 e3 e4 n2 n3 n3' n4 hs1 hs5 _ _ (SixCp x (ys.map Ey.says) bs n m) (fun v v' u hb hc => hc.on v v' u hb)
    (fun v hv => run_loadVar_row _ _ _ _ _ (0, 0) _ (K.below hv hq1) Try.underlying30 rfl info_lsix) (fun v hv => run_loadVar_row _ _ _ _ _ (0, 0) _ (K.below hv hq5) Try.underlying36 rfl info_six) ?_ ?_ h
  · intro v hv
    refine (toSixC x A D n c m d ys bs v (rA.on hv) hl hn hb ((rD.below hv).more hv.size) hm hm2).mono ?_
    rintro e' v' ⟨A6, c6, zs6, D6, d6, rfl, o6, hz6, p6, _, b6⟩
    exact ⟨_, rfl, ⟨A6, c6, zs6, D6, d6, rfl, o6.xr, hz6, RB.of_own p6⟩, b6⟩
  · rintro v u hv ⟨A6, c6, zs6, D6, d6, rfl, r6, hz6, s6⟩
    exact eqSixC x E G A6 D6 n e m g c6 d6 zs zs6 bs v (hz.trans hz6.symm) (rE.on hv) r6 (by have := congrArg List.length hz; simp at this; omega) hn hb2 ((rG.below hv).more hv.size) s6 hm hm2
end Go.Proofs.Ytegpaocoepcemaa
