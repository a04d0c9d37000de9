/-
  What the laws on IPv6 packets share: whole loads of an argument, a variable that is made and stored, the comparison with a new copy.
-/
import Derived.Test.YtkmijefheejcjaaSameReg
import Derived.Test.YtkmijefheejcjaaSix3
namespace Go.Proofs.Ytkmijefheejcjaa
set_option maxRecDepth 100000
open Go.RowKit

/-- A packet is stored into a variable that was just made. -/
theorem storeNewS {ops : Array Oper} {rest : List Oper} {o : Oper} {a : Act} {w : World} {Q : Exit → Act → World → Prop} (hgd : o.guard = none) (x y : Operand) (ho : o.op = .store 28 x y) {n0 n1 n2 n3 n4 n5 n6 n7 n8 n9 n10 n11 n12 n13 : Int} {A D : Option Addr} {l c m d : Nat} (hx : a.eval x = .pointer (some ⟨w.heap.size, 0, none⟩)) (hy : a.eval y = .agg #[.int .i64 n0, .int .i64 n1, .int .i64 n2, .int .i64 n3, .int .i64 n4, .int .i64 n5, .int .i64 n6, .int .i64 n7, .int .i64 n8, .int .i64 n9, .int .i64 n10, .int .i64 n11, .int .i64 n12, .int .i64 n13, .slice A l c, .slice D m d])
    (h : wpList Try.prog ops Q rest (a.put o.dst undef) (w.alloc (.cells #[.int .i64 n0, .int .i64 n1, .int .i64 n2, .int .i64 n3, .int .i64 n4, .int .i64 n5, .int .i64 n6, .int .i64 n7, .int .i64 n8, .int .i64 n9, .int .i64 n10, .int .i64 n11, .int .i64 n12, .int .i64 n13, .slice A l c, .slice D m d] 28))) : wpList Try.prog ops Q (o :: rest) a (w.alloc (.cells #[.int .i64 0, .int .i64 0, .int .i64 0, .int .i64 0, .int .i64 0, .int .i64 0, .int .i64 0, .int .i64 0, .int .i64 0, .int .i64 0, .int .i64 0, .int .i64 0, .int .i64 0, .int .i64 0, .slice none 0 0, .slice none 0 0] 28)) := by
  refine storeS hgd x y ho w.heap.size hx hy (K.new w _) ?_
  rw [World.setRow_alloc_new]
  exact h

theorem eqSix_steps : Steps2 31 := by
  intro o a w K Q t s u v ts ho ht hs h
  unfold Oper.wp execOp
  simp only [ho, resolve, List.map_toArray, List.map_cons, List.map_nil, ht, hs, show ∀ f, a.eval (.func f) = .func (.func f) #[] #[] from fun _ => rfl]
  go_simp
  exact h.mono fun e w' ⟨u, he, hk⟩ => by subst he; exact hk

/-- A copy of a packet, as the comparison wants it. -/
def SixCp (x : Sh) (es : List (Int × List UInt8)) (bs : List UInt8) (n m : Nat) (w : World) (u : Value) : Prop :=
  ∃ A c zs D d, u = .agg #[.int .i64 x.cls, .int .i64 x.label, .int .i64 x.hops, .int .i64 x.proto, .int .i64 x.src.k, .int .i64 x.src.a, .int .i64 x.src.b, .int .i64 x.src.c, .int .i64 x.src.d, .int .i64 x.dst.k, .int .i64 x.dst.a, .int .i64 x.dst.b, .int .i64 x.dst.c, .int .i64 x.dst.d, .slice A n c, .slice D m d] ∧ XR w w.heap.size A zs ∧ zs.map Ey.says = es ∧ RB w w.heap.size D bs
theorem SixCp.on {x : Sh} {es : List (Int × List UInt8)} {bs : List UInt8} {n m : Nat} (w w' : World) (u : Value) (hb : Below w.heap.size w w') (h : SixCp x es bs n m w u) : SixCp x es bs n m w' u := by
  obtain ⟨A, c, zs, D, d, e, r, hz, s⟩ := h
  exact ⟨A, c, zs, D, d, e, r.on hb, hz, (s.below hb).more hb.size⟩

end Go.Proofs.Ytkmijefheejcjaa
