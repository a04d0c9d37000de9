/-
  The draw of the laws that ask whether a rule holds a key: some rule, some key.
-/
import Derived.Test.YtdndanbalmoklaaRuDrawB
import Derived.Test.YtdndanbalmoklaaKyDraw
import Derived.Test.YtdndanbalmoklaaCells19
namespace Go.Proofs.Ytdndanbalmoklaa
set_option maxRecDepth 100000
open Go.RowKit

theorem res_cell_cellD {fn : Func} {p q : Tmp} {ty tz : TypeId} (h : fn.results = #[.cell p ty, .cell q tz]) (tmps : Array Value) (P : Program) (w : World) (g k : Nat) (cs ds : Array Value)
    (hp : tmps.getD p undef = .pointer (some ⟨g, 0, none⟩)) (hq : tmps.getD q undef = .pointer (some ⟨k, 0, none⟩)) (hld : (loadVar ty ⟨g, 0, none⟩).run P w = .ok (.agg cs) w) (hle : (loadVar tz ⟨k, 0, none⟩).run P w = .ok (.agg ds) w) :
    (results fn tmps).run P w = .ok (.tuple #[.agg cs, .agg ds]) w := by
  have e : (results fn tmps).run P w = ((asAddr (tmps.getD p undef)).run P w).andThen fun a w₁ => ((loadVar ty a).run P w₁).andThen fun v w₂ => ((asAddr (tmps.getD q undef)).run P w₂).andThen fun b w₃ => ((loadVar tz b).run P w₃).andThen fun u w₄ => .ok (.tuple #[v, u]) w₄ := by
    simp only [results, h]
    simp [Sem.run_bind, Result.andThen]
  rw [e, hp, hq]
  simp [asAddr, Result.andThen, hld, hle]
/-- A rule in block b1, a key in block b2; results' blocks r1, r2 that hold some rule, some key; nothing old has turned. -/
structure DH (w0 : World) (r1 r2 b1 b2 : Nat) (x : Ru) (k : Ky) (w : World) : Prop where
  p1 : w.heap[b1]? = some (.cells #[.int .i64 x.prio, .int .i64 x.src.base.k, .int .i64 x.src.base.a, .int .i64 x.src.base.b, .int .i64 x.src.base.c, .int .i64 x.src.base.d, .int .i64 x.src.len, .int .i64 x.dst.base.k, .int .i64 x.dst.base.a, .int .i64 x.dst.base.b, .int .i64 x.dst.base.c, .int .i64 x.dst.base.d, .int .i64 x.dst.len, .int .i64 x.proto, .int .i64 x.slo, .int .i64 x.shi, .int .i64 x.dlo, .int .i64 x.dhi, .int .i64 x.tenant, .int .i64 x.weight, .int .i64 x.chain] 53 (0, 0))
  p2 : w.heap[b2]? = some (.cells #[.int .i64 k.src.k, .int .i64 k.src.a, .int .i64 k.src.b, .int .i64 k.src.c, .int .i64 k.src.d, .int .i64 k.dst.k, .int .i64 k.dst.a, .int .i64 k.dst.b, .int .i64 k.dst.c, .int .i64 k.dst.d, .int .i64 k.proto, .int .i64 k.sport, .int .i64 k.dport] 55 (0, 0))
  q1 : ∃ y : Ru, w.heap[r1]? = some (.cells #[.int .i64 y.prio, .int .i64 y.src.base.k, .int .i64 y.src.base.a, .int .i64 y.src.base.b, .int .i64 y.src.base.c, .int .i64 y.src.base.d, .int .i64 y.src.len, .int .i64 y.dst.base.k, .int .i64 y.dst.base.a, .int .i64 y.dst.base.b, .int .i64 y.dst.base.c, .int .i64 y.dst.base.d, .int .i64 y.dst.len, .int .i64 y.proto, .int .i64 y.slo, .int .i64 y.shi, .int .i64 y.dlo, .int .i64 y.dhi, .int .i64 y.tenant, .int .i64 y.weight, .int .i64 y.chain] 53 (0, 0))
  q2 : ∃ y : Ky, w.heap[r2]? = some (.cells #[.int .i64 y.src.k, .int .i64 y.src.a, .int .i64 y.src.b, .int .i64 y.src.c, .int .i64 y.src.d, .int .i64 y.dst.k, .int .i64 y.dst.a, .int .i64 y.dst.b, .int .i64 y.dst.c, .int .i64 y.dst.d, .int .i64 y.proto, .int .i64 y.sport, .int .i64 y.dport] 55 (0, 0))
  bel : Below w0.heap.size w0 w
  ne : r1 ≠ r2 ∧ r1 ≠ b1 ∧ r2 ≠ b1 ∧ r1 ≠ b2 ∧ r2 ≠ b2 ∧ b1 ≠ b2
  old : w0.heap.size ≤ b1 ∧ w0.heap.size ≤ r1 ∧ w0.heap.size ≤ r2
theorem setRow_grownD (w : World) (g : Nat) (cs : Array Value) : w.grownBy (w.setRow g cs) (some g) := ⟨rfl, rfl, rfl, by simp, fun k _ hk => setRow_other w g k cs (fun e => hk (by rw [e]))⟩
section
variable {w0 w w' : World} {r1 r2 b1 b2 g : Nat} {x : Ru} {k : Ky}
theorem DH.kept (h : DH w0 r1 r2 b1 b2 x k w) (hg : w.grownBy w' (some g)) (h0 : w0.heap.size ≤ g) (h1 : g ≠ b1 ∧ g ≠ b2 ∧ g ≠ r1 ∧ g ≠ r2) : DH w0 r1 r2 b1 b2 x k w' :=
  ⟨row_kept hg (Ne.symm h1.1) h.p1, row_kept hg (Ne.symm h1.2.1) h.p2, by obtain ⟨y, e⟩ := h.q1; exact ⟨y, row_kept hg (Ne.symm h1.2.2.1) e⟩, by obtain ⟨y, e⟩ := h.q2; exact ⟨y, row_kept hg (Ne.symm h1.2.2.2) e⟩, bgrown h.bel hg (fun q hq => by cases hq; exact h0), h.ne, h.old⟩
theorem DH.set (h : DH w0 r1 r2 b1 b2 x k w) (j : Nat) (z : Int) (y : Ru) (he : (#[.int .i64 x.prio, .int .i64 x.src.base.k, .int .i64 x.src.base.a, .int .i64 x.src.base.b, .int .i64 x.src.base.c, .int .i64 x.src.base.d, .int .i64 x.src.len, .int .i64 x.dst.base.k, .int .i64 x.dst.base.a, .int .i64 x.dst.base.b, .int .i64 x.dst.base.c, .int .i64 x.dst.base.d, .int .i64 x.dst.len, .int .i64 x.proto, .int .i64 x.slo, .int .i64 x.shi, .int .i64 x.dlo, .int .i64 x.dhi, .int .i64 x.tenant, .int .i64 x.weight, .int .i64 x.chain] : Array Value).setIfInBounds j (.int .i64 z) = #[.int .i64 y.prio, .int .i64 y.src.base.k, .int .i64 y.src.base.a, .int .i64 y.src.base.b, .int .i64 y.src.base.c, .int .i64 y.src.base.d, .int .i64 y.src.len, .int .i64 y.dst.base.k, .int .i64 y.dst.base.a, .int .i64 y.dst.base.b, .int .i64 y.dst.base.c, .int .i64 y.dst.base.d, .int .i64 y.dst.len, .int .i64 y.proto, .int .i64 y.slo, .int .i64 y.shi, .int .i64 y.dlo, .int .i64 y.dhi, .int .i64 y.tenant, .int .i64 y.weight, .int .i64 y.chain]) : DH w0 r1 r2 b1 b2 y k (w.setCell ⟨b1, j, none⟩ (.int .i64 z)) :=
  ⟨he ▸ K.set h.p1 j _, K.other h.p2 b1 j _ (Ne.symm h.ne.2.2.2.2.2), by obtain ⟨y, e⟩ := h.q1; exact ⟨y, K.other e b1 j _ h.ne.2.1⟩, by obtain ⟨y, e⟩ := h.q2; exact ⟨y, K.other e b1 j _ h.ne.2.2.1⟩, h.bel.setCell (p := ⟨b1, j, none⟩) h.old.1 _, h.ne, h.old⟩
theorem DH.res1 (h : DH w0 r1 r2 b1 b2 x k w) (y : Ru) : DH w0 r1 r2 b1 b2 x k (w.setRow r1 #[.int .i64 y.prio, .int .i64 y.src.base.k, .int .i64 y.src.base.a, .int .i64 y.src.base.b, .int .i64 y.src.base.c, .int .i64 y.src.base.d, .int .i64 y.src.len, .int .i64 y.dst.base.k, .int .i64 y.dst.base.a, .int .i64 y.dst.base.b, .int .i64 y.dst.base.c, .int .i64 y.dst.base.d, .int .i64 y.dst.len, .int .i64 y.proto, .int .i64 y.slo, .int .i64 y.shi, .int .i64 y.dlo, .int .i64 y.dhi, .int .i64 y.tenant, .int .i64 y.weight, .int .i64 y.chain]) :=
  have hg := setRow_grownD w r1 #[.int .i64 y.prio, .int .i64 y.src.base.k, .int .i64 y.src.base.a, .int .i64 y.src.base.b, .int .i64 y.src.base.c, .int .i64 y.src.base.d, .int .i64 y.src.len, .int .i64 y.dst.base.k, .int .i64 y.dst.base.a, .int .i64 y.dst.base.b, .int .i64 y.dst.base.c, .int .i64 y.dst.base.d, .int .i64 y.dst.len, .int .i64 y.proto, .int .i64 y.slo, .int .i64 y.shi, .int .i64 y.dlo, .int .i64 y.dhi, .int .i64 y.tenant, .int .i64 y.weight, .int .i64 y.chain]
  ⟨row_kept hg (Ne.symm h.ne.2.1) h.p1, row_kept hg (Ne.symm h.ne.2.2.2.1) h.p2, by obtain ⟨y', e⟩ := h.q1; exact ⟨y, setRow_heap _ _ _ _ _ _ e⟩, by obtain ⟨y', e⟩ := h.q2; exact ⟨y', row_kept hg (Ne.symm h.ne.1) e⟩, bgrown h.bel hg (fun q hq => by cases hq; exact h.old.2.1), h.ne, h.old⟩
theorem DH.res2 (h : DH w0 r1 r2 b1 b2 x k w) (y : Ky) : DH w0 r1 r2 b1 b2 x k (w.setRow r2 #[.int .i64 y.src.k, .int .i64 y.src.a, .int .i64 y.src.b, .int .i64 y.src.c, .int .i64 y.src.d, .int .i64 y.dst.k, .int .i64 y.dst.a, .int .i64 y.dst.b, .int .i64 y.dst.c, .int .i64 y.dst.d, .int .i64 y.proto, .int .i64 y.sport, .int .i64 y.dport]) :=
  have hg := setRow_grownD w r2 #[.int .i64 y.src.k, .int .i64 y.src.a, .int .i64 y.src.b, .int .i64 y.src.c, .int .i64 y.src.d, .int .i64 y.dst.k, .int .i64 y.dst.a, .int .i64 y.dst.b, .int .i64 y.dst.c, .int .i64 y.dst.d, .int .i64 y.proto, .int .i64 y.sport, .int .i64 y.dport]
  ⟨row_kept hg (Ne.symm h.ne.2.2.1) h.p1, row_kept hg (Ne.symm h.ne.2.2.2.2.1) h.p2, by obtain ⟨y', e⟩ := h.q1; exact ⟨y', row_kept hg h.ne.1 e⟩, by obtain ⟨y', e⟩ := h.q2; exact ⟨y, setRow_heap _ _ _ _ _ _ e⟩, bgrown h.bel hg (fun q hq => by cases hq; exact h.old.2.2), h.ne, h.old⟩
theorem DH.drew (h : DH w0 r1 r2 b1 b2 x k w) : DH w0 r1 r2 b1 b2 x k w.drew := ⟨h.p1, h.p2, h.q1, h.q2, ⟨h.bel.os, h.bel.tape, h.bel.output, h.bel.size, h.bel.block⟩, h.ne, h.old⟩
/-- What the slots hold while the two results are stored. -/
def GRH (j : Nat) (_ : World) (v : Value) : Prop := match j with
  | 0 => ∃ y : Ru, v = .agg #[.int .i64 y.prio, .int .i64 y.src.base.k, .int .i64 y.src.base.a, .int .i64 y.src.base.b, .int .i64 y.src.base.c, .int .i64 y.src.base.d, .int .i64 y.src.len, .int .i64 y.dst.base.k, .int .i64 y.dst.base.a, .int .i64 y.dst.base.b, .int .i64 y.dst.base.c, .int .i64 y.dst.base.d, .int .i64 y.dst.len, .int .i64 y.proto, .int .i64 y.slo, .int .i64 y.shi, .int .i64 y.dlo, .int .i64 y.dhi, .int .i64 y.tenant, .int .i64 y.weight, .int .i64 y.chain]
  | 1 => ∃ y : Ky, v = .agg #[.int .i64 y.src.k, .int .i64 y.src.a, .int .i64 y.src.b, .int .i64 y.src.c, .int .i64 y.src.d, .int .i64 y.dst.k, .int .i64 y.dst.a, .int .i64 y.dst.b, .int .i64 y.dst.c, .int .i64 y.dst.d, .int .i64 y.proto, .int .i64 y.sport, .int .i64 y.dport]
  | _ => True
theorem needH {ops : Array Oper} {w : World} {a : Act} {j : Nat} (h : ∀ q ∈ needOf ops j, GRH q.1 w (a.tmps.getD q.2 undef)) (i d : Nat) (hm : (needOf ops j).contains (i, d) = true) : GRH i w (a.eval (.tmp d)) :=
  h (i, d) (by simpa using hm)
end

set_option maxHeartbeats 8000000 in
theorem drawRuleHasC (A : Option Addr) (c : Nat) (bs : List UInt8) (w : World) (hr : RB w w.heap.size A bs) (hn : bs.length ≤ 1048576) :
    Calls Try.prog 33 #[.slice A bs.length c] w fun e w' => ∃ (x : Ru) (k : Ky), e = .returned (.tuple #[.agg #[.int .i64 x.prio, .int .i64 x.src.base.k, .int .i64 x.src.base.a, .int .i64 x.src.base.b, .int .i64 x.src.base.c, .int .i64 x.src.base.d, .int .i64 x.src.len, .int .i64 x.dst.base.k, .int .i64 x.dst.base.a, .int .i64 x.dst.base.b, .int .i64 x.dst.base.c, .int .i64 x.dst.base.d, .int .i64 x.dst.len, .int .i64 x.proto, .int .i64 x.slo, .int .i64 x.shi, .int .i64 x.dlo, .int .i64 x.dhi, .int .i64 x.tenant, .int .i64 x.weight, .int .i64 x.chain], .agg #[.int .i64 k.src.k, .int .i64 k.src.a, .int .i64 k.src.b, .int .i64 k.src.c, .int .i64 k.src.d, .int .i64 k.dst.k, .int .i64 k.dst.a, .int .i64 k.dst.b, .int .i64 k.dst.c, .int .i64 k.dst.d, .int .i64 k.proto, .int .i64 k.sport, .int .i64 k.dport]]) ∧ Below w.heap.size w w' := by
  have q1 : Hid (((w.alloc (.cells #[.int .i64 0, .int .i64 0, .int .i64 0, .int .i64 0, .int .i64 0, .int .i64 0, .int .i64 0, .int .i64 0, .int .i64 0, .int .i64 0, .int .i64 0, .int .i64 0, .int .i64 0, .int .i64 0, .int .i64 0, .int .i64 0, .int .i64 0, .int .i64 0, .int .i64 0, .int .i64 0, .int .i64 0] 53)).alloc (.cells #[.int .i64 0, .int .i64 0, .int .i64 0, .int .i64 0, .int .i64 0, .int .i64 0, .int .i64 0, .int .i64 0, .int .i64 0, .int .i64 0, .int .i64 0, .int .i64 0, .int .i64 0] 55)).heap[w.heap.size]? = some (.cells #[.int .i64 0, .int .i64 0, .int .i64 0, .int .i64 0, .int .i64 0, .int .i64 0, .int .i64 0, .int .i64 0, .int .i64 0, .int .i64 0, .int .i64 0, .int .i64 0, .int .i64 0, .int .i64 0, .int .i64 0, .int .i64 0, .int .i64 0, .int .i64 0, .int .i64 0, .int .i64 0, .int .i64 0] 53 (0, 0))) := Lib.hid (K.old (K.new w _) _)
  have q2 : Hid (((w.alloc (.cells #[.int .i64 0, .int .i64 0, .int .i64 0, .int .i64 0, .int .i64 0, .int .i64 0, .int .i64 0, .int .i64 0, .int .i64 0, .int .i64 0, .int .i64 0, .int .i64 0, .int .i64 0, .int .i64 0, .int .i64 0, .int .i64 0, .int .i64 0, .int .i64 0, .int .i64 0, .int .i64 0, .int .i64 0] 53)).alloc (.cells #[.int .i64 0, .int .i64 0, .int .i64 0, .int .i64 0, .int .i64 0, .int .i64 0, .int .i64 0, .int .i64 0, .int .i64 0, .int .i64 0, .int .i64 0, .int .i64 0, .int .i64 0] 55)).heap[w.heap.size + 1]? = some (.cells #[.int .i64 0, .int .i64 0, .int .i64 0, .int .i64 0, .int .i64 0, .int .i64 0, .int .i64 0, .int .i64 0, .int .i64 0, .int .i64 0, .int .i64 0, .int .i64 0, .int .i64 0] 55 (0, 0))) := Lib.hid (K.newAt (by simp))
  have B0 : Hid (Below w.heap.size w ((w.alloc (.cells #[.int .i64 0, .int .i64 0, .int .i64 0, .int .i64 0, .int .i64 0, .int .i64 0, .int .i64 0, .int .i64 0, .int .i64 0, .int .i64 0, .int .i64 0, .int .i64 0, .int .i64 0, .int .i64 0, .int .i64 0, .int .i64 0, .int .i64 0, .int .i64 0, .int .i64 0, .int .i64 0, .int .i64 0] 53)).alloc (.cells #[.int .i64 0, .int .i64 0, .int .i64 0, .int .i64 0, .int .i64 0, .int .i64 0, .int .i64 0, .int .i64 0, .int .i64 0, .int .i64 0, .int .i64 0, .int .i64 0, .int .i64 0] 55))) := Lib.hid (Joins.below_alloc2 w _ _)
  have hz : ((w.alloc (.cells #[.int .i64 0, .int .i64 0, .int .i64 0, .int .i64 0, .int .i64 0, .int .i64 0, .int .i64 0, .int .i64 0, .int .i64 0, .int .i64 0, .int .i64 0, .int .i64 0, .int .i64 0, .int .i64 0, .int .i64 0, .int .i64 0, .int .i64 0, .int .i64 0, .int .i64 0, .int .i64 0, .int .i64 0] 53)).alloc (.cells #[.int .i64 0, .int .i64 0, .int .i64 0, .int .i64 0, .int .i64 0, .int .i64 0, .int .i64 0, .int .i64 0, .int .i64 0, .int .i64 0, .int .i64 0, .int .i64 0, .int .i64 0] 55)).heap.size = w.heap.size + 1 + 1 := by simp
  have R0 := Lib.hid ((hr.below B0.out).more B0.out.size)
  clear hr
  go_enter Try.func33, Try.ntmps33
  go_upto_region 1 with fail
  generalize (w.alloc (.cells #[.int .i64 0, .int .i64 0, .int .i64 0, .int .i64 0, .int .i64 0, .int .i64 0, .int .i64 0, .int .i64 0, .int .i64 0, .int .i64 0, .int .i64 0, .int .i64 0, .int .i64 0, .int .i64 0, .int .i64 0, .int .i64 0, .int .i64 0, .int .i64 0, .int .i64 0, .int .i64 0, .int .i64 0] 53)).alloc (.cells #[.int .i64 0, .int .i64 0, .int .i64 0, .int .i64 0, .int .i64 0, .int .i64 0, .int .i64 0, .int .i64 0, .int .i64 0, .int .i64 0, .int .i64 0, .int .i64 0, .int .i64 0] 55) = w0 at q1 q2 B0 hz R0 ⊢
  go_wp2_with fail
  refine (openC A c bs w0 R0.out hn).mono ?_
  rintro e w1 ⟨rfl, hc1, b1⟩
  have Q1 := Lib.hid (K.below b1 q1.out)
  have Q2 := Lib.hid (K.below b1 q2.out)
  have B1 := Lib.hid (bthen B0.out b1)
  clear b1 q1 q2 B0 R0
  generalize w0.heap.size = g at *
  have hgz : w.heap.size + 1 < g := by omega
  clear hz
  go_wp2_with fail
  refine (badRuleD w1 g A c bs 0 hc1 (by omega)).mono ?_
  rintro e w2 ⟨x, t2, rfl, ht2, hc2, hg2⟩
  have Q1 := Lib.hid (row_kept hg2 (by omega) Q1.out)
  have Q2 := Lib.hid (row_kept hg2 (by omega) Q2.out)
  have B2 := Lib.hid (bgrown B1.out hg2 (fun q hq => by cases hq; omega))
  clear hg2 hc1 B1
  go_wp2_with fail
  refine (badKeyD w2 g A c bs t2 hc2 (by omega)).mono ?_
  rintro e w3 ⟨k, t3, rfl, ht3, hc3, hg3⟩
  have Q1 := Lib.hid (row_kept hg3 (by omega) Q1.out)
  have Q2 := Lib.hid (row_kept hg3 (by omega) Q2.out)
  have B3 := Lib.hid (bgrown B2.out hg3 (fun q hq => by cases hq; omega))
  clear hg3 hc2 B2
  have gl := hc3.lt
  have zl := K.lt Q2.out
  have P1 : Hid (((w3.alloc (.cells #[.int .i64 0, .int .i64 0, .int .i64 0, .int .i64 0, .int .i64 0, .int .i64 0, .int .i64 0, .int .i64 0, .int .i64 0, .int .i64 0, .int .i64 0, .int .i64 0, .int .i64 0, .int .i64 0, .int .i64 0, .int .i64 0, .int .i64 0, .int .i64 0, .int .i64 0, .int .i64 0, .int .i64 0] 53)).alloc (.cells #[.int .i64 0, .int .i64 0, .int .i64 0, .int .i64 0, .int .i64 0, .int .i64 0, .int .i64 0, .int .i64 0, .int .i64 0, .int .i64 0, .int .i64 0, .int .i64 0, .int .i64 0] 55)).heap[w3.heap.size]? = some (.cells #[.int .i64 0, .int .i64 0, .int .i64 0, .int .i64 0, .int .i64 0, .int .i64 0, .int .i64 0, .int .i64 0, .int .i64 0, .int .i64 0, .int .i64 0, .int .i64 0, .int .i64 0, .int .i64 0, .int .i64 0, .int .i64 0, .int .i64 0, .int .i64 0, .int .i64 0, .int .i64 0, .int .i64 0] 53 (0, 0))) := Lib.hid (K.old (K.new w3 _) _)
  have P2 : Hid (((w3.alloc (.cells #[.int .i64 0, .int .i64 0, .int .i64 0, .int .i64 0, .int .i64 0, .int .i64 0, .int .i64 0, .int .i64 0, .int .i64 0, .int .i64 0, .int .i64 0, .int .i64 0, .int .i64 0, .int .i64 0, .int .i64 0, .int .i64 0, .int .i64 0, .int .i64 0, .int .i64 0, .int .i64 0, .int .i64 0] 53)).alloc (.cells #[.int .i64 0, .int .i64 0, .int .i64 0, .int .i64 0, .int .i64 0, .int .i64 0, .int .i64 0, .int .i64 0, .int .i64 0, .int .i64 0, .int .i64 0, .int .i64 0, .int .i64 0] 55)).heap[w3.heap.size + 1]? = some (.cells #[.int .i64 0, .int .i64 0, .int .i64 0, .int .i64 0, .int .i64 0, .int .i64 0, .int .i64 0, .int .i64 0, .int .i64 0, .int .i64 0, .int .i64 0, .int .i64 0, .int .i64 0] 55 (0, 0))) := Lib.hid (K.newAt (by simp))
  have S1 := Lib.hid (setRow_grownD ((w3.alloc (.cells #[.int .i64 0, .int .i64 0, .int .i64 0, .int .i64 0, .int .i64 0, .int .i64 0, .int .i64 0, .int .i64 0, .int .i64 0, .int .i64 0, .int .i64 0, .int .i64 0, .int .i64 0, .int .i64 0, .int .i64 0, .int .i64 0, .int .i64 0, .int .i64 0, .int .i64 0, .int .i64 0, .int .i64 0] 53)).alloc (.cells #[.int .i64 0, .int .i64 0, .int .i64 0, .int .i64 0, .int .i64 0, .int .i64 0, .int .i64 0, .int .i64 0, .int .i64 0, .int .i64 0, .int .i64 0, .int .i64 0, .int .i64 0] 55)) w3.heap.size #[.int .i64 x.prio, .int .i64 x.src.base.k, .int .i64 x.src.base.a, .int .i64 x.src.base.b, .int .i64 x.src.base.c, .int .i64 x.src.base.d, .int .i64 x.src.len, .int .i64 x.dst.base.k, .int .i64 x.dst.base.a, .int .i64 x.dst.base.b, .int .i64 x.dst.base.c, .int .i64 x.dst.base.d, .int .i64 x.dst.len, .int .i64 x.proto, .int .i64 x.slo, .int .i64 x.shi, .int .i64 x.dlo, .int .i64 x.dhi, .int .i64 x.tenant, .int .i64 x.weight, .int .i64 x.chain])
  have P3 := Lib.hid (row_kept S1.out (by omega) P2.out)
  have S2 := Lib.hid (setRow_grownD (((w3.alloc (.cells #[.int .i64 0, .int .i64 0, .int .i64 0, .int .i64 0, .int .i64 0, .int .i64 0, .int .i64 0, .int .i64 0, .int .i64 0, .int .i64 0, .int .i64 0, .int .i64 0, .int .i64 0, .int .i64 0, .int .i64 0, .int .i64 0, .int .i64 0, .int .i64 0, .int .i64 0, .int .i64 0, .int .i64 0] 53)).alloc (.cells #[.int .i64 0, .int .i64 0, .int .i64 0, .int .i64 0, .int .i64 0, .int .i64 0, .int .i64 0, .int .i64 0, .int .i64 0, .int .i64 0, .int .i64 0, .int .i64 0, .int .i64 0] 55)).setRow w3.heap.size #[.int .i64 x.prio, .int .i64 x.src.base.k, .int .i64 x.src.base.a, .int .i64 x.src.base.b, .int .i64 x.src.base.c, .int .i64 x.src.base.d, .int .i64 x.src.len, .int .i64 x.dst.base.k, .int .i64 x.dst.base.a, .int .i64 x.dst.base.b, .int .i64 x.dst.base.c, .int .i64 x.dst.base.d, .int .i64 x.dst.len, .int .i64 x.proto, .int .i64 x.slo, .int .i64 x.shi, .int .i64 x.dlo, .int .i64 x.dhi, .int .i64 x.tenant, .int .i64 x.weight, .int .i64 x.chain]) (w3.heap.size + 1) #[.int .i64 k.src.k, .int .i64 k.src.a, .int .i64 k.src.b, .int .i64 k.src.c, .int .i64 k.src.d, .int .i64 k.dst.k, .int .i64 k.dst.a, .int .i64 k.dst.b, .int .i64 k.dst.c, .int .i64 k.dst.d, .int .i64 k.proto, .int .i64 k.sport, .int .i64 k.dport])
  have D4 : Hid (DH w w.heap.size (w.heap.size + 1) w3.heap.size (w3.heap.size + 1) x k ((((w3.alloc (.cells #[.int .i64 0, .int .i64 0, .int .i64 0, .int .i64 0, .int .i64 0, .int .i64 0, .int .i64 0, .int .i64 0, .int .i64 0, .int .i64 0, .int .i64 0, .int .i64 0, .int .i64 0, .int .i64 0, .int .i64 0, .int .i64 0, .int .i64 0, .int .i64 0, .int .i64 0, .int .i64 0, .int .i64 0] 53)).alloc (.cells #[.int .i64 0, .int .i64 0, .int .i64 0, .int .i64 0, .int .i64 0, .int .i64 0, .int .i64 0, .int .i64 0, .int .i64 0, .int .i64 0, .int .i64 0, .int .i64 0, .int .i64 0] 55)).setRow w3.heap.size #[.int .i64 x.prio, .int .i64 x.src.base.k, .int .i64 x.src.base.a, .int .i64 x.src.base.b, .int .i64 x.src.base.c, .int .i64 x.src.base.d, .int .i64 x.src.len, .int .i64 x.dst.base.k, .int .i64 x.dst.base.a, .int .i64 x.dst.base.b, .int .i64 x.dst.base.c, .int .i64 x.dst.base.d, .int .i64 x.dst.len, .int .i64 x.proto, .int .i64 x.slo, .int .i64 x.shi, .int .i64 x.dlo, .int .i64 x.dhi, .int .i64 x.tenant, .int .i64 x.weight, .int .i64 x.chain]).setRow (w3.heap.size + 1) #[.int .i64 k.src.k, .int .i64 k.src.a, .int .i64 k.src.b, .int .i64 k.src.c, .int .i64 k.src.d, .int .i64 k.dst.k, .int .i64 k.dst.a, .int .i64 k.dst.b, .int .i64 k.dst.c, .int .i64 k.dst.d, .int .i64 k.proto, .int .i64 k.sport, .int .i64 k.dport])) := Lib.hid ⟨row_kept S2.out (by omega) (setRow_heap _ _ _ _ _ _ P1.out), setRow_heap _ _ _ _ _ _ P3.out, ⟨Ru.zero, row_kept S2.out (by omega) (row_kept S1.out (by omega) (K.old (K.old Q1.out _) _))⟩, ⟨Ky.zero, row_kept S2.out (by omega) (row_kept S1.out (by omega) (K.old (K.old Q2.out _) _))⟩, bgrown (bgrown (bthen B3.out (Joins.below_alloc2 w3 _ _)) S1.out (fun q hq => by cases hq; omega)) S2.out (fun q hq => by cases hq; omega), by omega, by omega⟩
  have C4 : Hid (Cur ((((w3.alloc (.cells #[.int .i64 0, .int .i64 0, .int .i64 0, .int .i64 0, .int .i64 0, .int .i64 0, .int .i64 0, .int .i64 0, .int .i64 0, .int .i64 0, .int .i64 0, .int .i64 0, .int .i64 0, .int .i64 0, .int .i64 0, .int .i64 0, .int .i64 0, .int .i64 0, .int .i64 0, .int .i64 0, .int .i64 0] 53)).alloc (.cells #[.int .i64 0, .int .i64 0, .int .i64 0, .int .i64 0, .int .i64 0, .int .i64 0, .int .i64 0, .int .i64 0, .int .i64 0, .int .i64 0, .int .i64 0, .int .i64 0, .int .i64 0] 55)).setRow w3.heap.size #[.int .i64 x.prio, .int .i64 x.src.base.k, .int .i64 x.src.base.a, .int .i64 x.src.base.b, .int .i64 x.src.base.c, .int .i64 x.src.base.d, .int .i64 x.src.len, .int .i64 x.dst.base.k, .int .i64 x.dst.base.a, .int .i64 x.dst.base.b, .int .i64 x.dst.base.c, .int .i64 x.dst.base.d, .int .i64 x.dst.len, .int .i64 x.proto, .int .i64 x.slo, .int .i64 x.shi, .int .i64 x.dlo, .int .i64 x.dhi, .int .i64 x.tenant, .int .i64 x.weight, .int .i64 x.chain]).setRow (w3.heap.size + 1) #[.int .i64 k.src.k, .int .i64 k.src.a, .int .i64 k.src.b, .int .i64 k.src.c, .int .i64 k.src.d, .int .i64 k.dst.k, .int .i64 k.dst.a, .int .i64 k.dst.b, .int .i64 k.dst.c, .int .i64 k.dst.d, .int .i64 k.proto, .int .i64 k.sport, .int .i64 k.dport]) g A c bs t3) := Lib.hid (((hc3.below (Joins.below_alloc2 w3 _ _)).grownBy S1.out (fun q hq => by cases hq; omega)).grownBy S2.out (fun q hq => by cases hq; omega))
  go_upto_region 3 with (first | (with_reducible refine storeRu rfl _ _ rfl w3.heap.size rfl rfl P1.out ?_) | (with_reducible refine storeK rfl _ _ rfl (w3.heap.size + 1) rfl rfl P3.out ?_))
  generalize (((w3.alloc (.cells #[.int .i64 0, .int .i64 0, .int .i64 0, .int .i64 0, .int .i64 0, .int .i64 0, .int .i64 0, .int .i64 0, .int .i64 0, .int .i64 0, .int .i64 0, .int .i64 0, .int .i64 0, .int .i64 0, .int .i64 0, .int .i64 0, .int .i64 0, .int .i64 0, .int .i64 0, .int .i64 0, .int .i64 0] 53)).alloc (.cells #[.int .i64 0, .int .i64 0, .int .i64 0, .int .i64 0, .int .i64 0, .int .i64 0, .int .i64 0, .int .i64 0, .int .i64 0, .int .i64 0, .int .i64 0, .int .i64 0, .int .i64 0] 55)).setRow w3.heap.size #[.int .i64 x.prio, .int .i64 x.src.base.k, .int .i64 x.src.base.a, .int .i64 x.src.base.b, .int .i64 x.src.base.c, .int .i64 x.src.base.d, .int .i64 x.src.len, .int .i64 x.dst.base.k, .int .i64 x.dst.base.a, .int .i64 x.dst.base.b, .int .i64 x.dst.base.c, .int .i64 x.dst.base.d, .int .i64 x.dst.len, .int .i64 x.proto, .int .i64 x.slo, .int .i64 x.shi, .int .i64 x.dlo, .int .i64 x.dhi, .int .i64 x.tenant, .int .i64 x.weight, .int .i64 x.chain]).setRow (w3.heap.size + 1) #[.int .i64 k.src.k, .int .i64 k.src.a, .int .i64 k.src.b, .int .i64 k.src.c, .int .i64 k.src.d, .int .i64 k.dst.k, .int .i64 k.dst.a, .int .i64 k.dst.b, .int .i64 k.dst.c, .int .i64 k.dst.d, .int .i64 k.proto, .int .i64 k.sport, .int .i64 k.dport] = w4 at D4 C4 ⊢
  clear P1 P2 P3 S1 S2 Q1 Q2 B3 hc3
  have hb1 : g ≠ w3.heap.size := by omega
  generalize hB1 : w3.heap.size = b1 at *
  have hgb : g < b1 := by omega
  clear hB1 gl
  go_wp2_with fail
  refine (onceC _ g A c bs t3 2 (by omega) (by omega) C4.out (by omega)).mono ?_
  rintro e w5 ⟨b, rfl, _, hg5⟩
  have D5 := Lib.hid (D4.out.kept hg5 (by omega) ⟨by omega, by omega, by omega, by omega⟩)
  clear hg5 C4 D4
  go_upto_if 14 with fail
  go_cut [] (fun wx => ∃ y : Ru, Hid (DH w w.heap.size (w.heap.size + 1) b1 (b1 + 1) y k wx))
  case first =>
    cases b
    · go_wp2_with fail
      go_meet
      exact ⟨x, D5⟩
    · skip
      have c1 := K.cell D5.out.p1 1 _ rfl
      have f1 := frozen_of_row _ _ 1 _ _ D5.out.p1
      have c2 := K.cell D5.out.p1 2 _ rfl
      have f2 := frozen_of_row _ _ 2 _ _ D5.out.p1
      have c3 := K.cell D5.out.p1 3 _ rfl
      have f3 := frozen_of_row _ _ 3 _ _ D5.out.p1
      have c4 := K.cell D5.out.p1 4 _ rfl
      have f4 := frozen_of_row _ _ 4 _ _ D5.out.p1
      have c5 := K.cell D5.out.p1 5 _ rfl
      have f5 := frozen_of_row _ _ 5 _ _ D5.out.p1
      have c6 := K.cell D5.out.p1 6 _ rfl
      have f6 := frozen_of_row _ _ 6 _ _ D5.out.p1
      have c7 := K.cell D5.out.p1 7 _ rfl
      have f7 := frozen_of_row _ _ 7 _ _ D5.out.p1
      have c8 := K.cell D5.out.p1 8 _ rfl
      have f8 := frozen_of_row _ _ 8 _ _ D5.out.p1
      have c9 := K.cell D5.out.p1 9 _ rfl
      have f9 := frozen_of_row _ _ 9 _ _ D5.out.p1
      have c10 := K.cell D5.out.p1 10 _ rfl
      have f10 := frozen_of_row _ _ 10 _ _ D5.out.p1
      have c11 := K.cell D5.out.p1 11 _ rfl
      have f11 := frozen_of_row _ _ 11 _ _ D5.out.p1
      have c12 := K.cell D5.out.p1 12 _ rfl
      have f12 := frozen_of_row _ _ 12 _ _ D5.out.p1
      have E0 := Lib.hid (D5.out.set 1 0 (⟨x.prio, ⟨⟨0, x.src.base.a, x.src.base.b, x.src.base.c, x.src.base.d⟩, x.src.len⟩, x.dst, x.proto, x.slo, x.shi, x.dlo, x.dhi, x.tenant, x.weight, x.chain⟩ : Ru) rfl)
      have E1 := Lib.hid (E0.out.set 2 0 (⟨x.prio, ⟨⟨0, 0, x.src.base.b, x.src.base.c, x.src.base.d⟩, x.src.len⟩, x.dst, x.proto, x.slo, x.shi, x.dlo, x.dhi, x.tenant, x.weight, x.chain⟩ : Ru) rfl)
      have E2 := Lib.hid (E1.out.set 3 0 (⟨x.prio, ⟨⟨0, 0, 0, x.src.base.c, x.src.base.d⟩, x.src.len⟩, x.dst, x.proto, x.slo, x.shi, x.dlo, x.dhi, x.tenant, x.weight, x.chain⟩ : Ru) rfl)
      have E3 := Lib.hid (E2.out.set 4 0 (⟨x.prio, ⟨⟨0, 0, 0, 0, x.src.base.d⟩, x.src.len⟩, x.dst, x.proto, x.slo, x.shi, x.dlo, x.dhi, x.tenant, x.weight, x.chain⟩ : Ru) rfl)
      have E4 := Lib.hid (E3.out.set 5 0 (⟨x.prio, ⟨⟨0, 0, 0, 0, 0⟩, x.src.len⟩, x.dst, x.proto, x.slo, x.shi, x.dlo, x.dhi, x.tenant, x.weight, x.chain⟩ : Ru) rfl)
      have E5 := Lib.hid (E4.out.set 6 0 (⟨x.prio, ⟨⟨0, 0, 0, 0, 0⟩, 0⟩, x.dst, x.proto, x.slo, x.shi, x.dlo, x.dhi, x.tenant, x.weight, x.chain⟩ : Ru) rfl)
      have E6 := Lib.hid (E5.out.set 7 0 (⟨x.prio, ⟨⟨0, 0, 0, 0, 0⟩, 0⟩, ⟨⟨0, x.dst.base.a, x.dst.base.b, x.dst.base.c, x.dst.base.d⟩, x.dst.len⟩, x.proto, x.slo, x.shi, x.dlo, x.dhi, x.tenant, x.weight, x.chain⟩ : Ru) rfl)
      have E7 := Lib.hid (E6.out.set 8 0 (⟨x.prio, ⟨⟨0, 0, 0, 0, 0⟩, 0⟩, ⟨⟨0, 0, x.dst.base.b, x.dst.base.c, x.dst.base.d⟩, x.dst.len⟩, x.proto, x.slo, x.shi, x.dlo, x.dhi, x.tenant, x.weight, x.chain⟩ : Ru) rfl)
      have E8 := Lib.hid (E7.out.set 9 0 (⟨x.prio, ⟨⟨0, 0, 0, 0, 0⟩, 0⟩, ⟨⟨0, 0, 0, x.dst.base.c, x.dst.base.d⟩, x.dst.len⟩, x.proto, x.slo, x.shi, x.dlo, x.dhi, x.tenant, x.weight, x.chain⟩ : Ru) rfl)
      have E9 := Lib.hid (E8.out.set 10 0 (⟨x.prio, ⟨⟨0, 0, 0, 0, 0⟩, 0⟩, ⟨⟨0, 0, 0, 0, x.dst.base.d⟩, x.dst.len⟩, x.proto, x.slo, x.shi, x.dlo, x.dhi, x.tenant, x.weight, x.chain⟩ : Ru) rfl)
      have E10 := Lib.hid (E9.out.set 11 0 (⟨x.prio, ⟨⟨0, 0, 0, 0, 0⟩, 0⟩, ⟨⟨0, 0, 0, 0, 0⟩, x.dst.len⟩, x.proto, x.slo, x.shi, x.dlo, x.dhi, x.tenant, x.weight, x.chain⟩ : Ru) rfl)
      have E11 := Lib.hid (E10.out.set 12 0 (⟨x.prio, ⟨⟨0, 0, 0, 0, 0⟩, 0⟩, ⟨⟨0, 0, 0, 0, 0⟩, 0⟩, x.proto, x.slo, x.shi, x.dlo, x.dhi, x.tenant, x.weight, x.chain⟩ : Ru) rfl)
      go_wp2_with fail
      go_meet
      exact ⟨_, E11⟩
  case rest =>
  obtain ⟨y, D6⟩ := hcut
  clear D5
  go_wp2_with fail
  refine wp_region_keptL (by kernel_rfl) GRH [2, 3, 5, 6] (fun _ v => DH w w.heap.size (w.heap.size + 1) b1 (b1 + 1) y k v) (fun _ _ => True) 21 [(0, 19), (1, 20)] (by kernel_rfl) (by kernel_rfl) rfl D6.out.drew (fun j v v' u _ h => h) ?_ ?_
  · intro j o ho q a' v K' hx hnd hk hI hK
    match j, ho with
    | 0, ho =>
      obtain rfl := Option.some.inj ho
      have h0 : a'.eval (.tmp 5) = .pointer (some ⟨b1, 0, none⟩) := (hx 5 (by decide)).trans rfl
      exact wp_load_row 53 _ rfl b1 h0 _ _ (0, 0) _ hI.p1 Try.underlying53 rfl info_rule (hK _ _ ⟨y, rfl⟩ trivial hI)
    | 1, ho =>
      obtain rfl := Option.some.inj ho
      have h0 : a'.eval (.tmp 6) = .pointer (some ⟨b1 + 1, 0, none⟩) := (hx 6 (by decide)).trans rfl
      exact wp_load_row 55 _ rfl (b1 + 1) h0 _ _ (0, 0) _ hI.p2 Try.underlying55 rfl info_key (hK _ _ ⟨k, rfl⟩ trivial hI)
    | 2, ho =>
      obtain rfl := Option.some.inj ho
      have h0 : a'.eval (.tmp 2) = .pointer (some ⟨w.heap.size, 0, none⟩) := (hx 2 (by decide)).trans rfl
      obtain ⟨z, h1⟩ : ∃ z : Ru, a'.eval (.tmp 19) = .agg #[.int .i64 z.prio, .int .i64 z.src.base.k, .int .i64 z.src.base.a, .int .i64 z.src.base.b, .int .i64 z.src.base.c, .int .i64 z.src.base.d, .int .i64 z.src.len, .int .i64 z.dst.base.k, .int .i64 z.dst.base.a, .int .i64 z.dst.base.b, .int .i64 z.dst.base.c, .int .i64 z.dst.base.d, .int .i64 z.dst.len, .int .i64 z.proto, .int .i64 z.slo, .int .i64 z.shi, .int .i64 z.dlo, .int .i64 z.dhi, .int .i64 z.tenant, .int .i64 z.weight, .int .i64 z.chain] := (needH hnd 0 19 (by kernel_rfl) :)
      obtain ⟨z0, e0⟩ := hI.q1
      exact wp_store_row 53 _ _ rfl w.heap.size _ h0 h1 _ _ e0 info_rule rfl (by simp [Value.oneCell']) (hK _ _ trivial trivial (hI.res1 z))
    | 3, ho =>
      obtain rfl := Option.some.inj ho
      have h0 : a'.eval (.tmp 3) = .pointer (some ⟨w.heap.size + 1, 0, none⟩) := (hx 3 (by decide)).trans rfl
      obtain ⟨z, h1⟩ : ∃ z : Ky, a'.eval (.tmp 20) = .agg #[.int .i64 z.src.k, .int .i64 z.src.a, .int .i64 z.src.b, .int .i64 z.src.c, .int .i64 z.src.d, .int .i64 z.dst.k, .int .i64 z.dst.a, .int .i64 z.dst.b, .int .i64 z.dst.c, .int .i64 z.dst.d, .int .i64 z.proto, .int .i64 z.sport, .int .i64 z.dport] := (needH hnd 1 20 (by kernel_rfl) :)
      obtain ⟨z0, e0⟩ := hI.q2
      exact wp_store_row 55 _ _ rfl (w.heap.size + 1) _ h0 h1 _ _ e0 info_key rfl (by simp [Value.oneCell']) (hK _ _ trivial trivial (hI.res2 z))
    | j + 4, ho => simp at ho
  · intro f v hf hI
    obtain ⟨z0, e0⟩ : ∃ z : Ru, f 0 = .agg #[.int .i64 z.prio, .int .i64 z.src.base.k, .int .i64 z.src.base.a, .int .i64 z.src.base.b, .int .i64 z.src.base.c, .int .i64 z.src.base.d, .int .i64 z.src.len, .int .i64 z.dst.base.k, .int .i64 z.dst.base.a, .int .i64 z.dst.base.b, .int .i64 z.dst.base.c, .int .i64 z.dst.base.d, .int .i64 z.dst.len, .int .i64 z.proto, .int .i64 z.slo, .int .i64 z.shi, .int .i64 z.dlo, .int .i64 z.dhi, .int .i64 z.tenant, .int .i64 z.weight, .int .i64 z.chain] := hf (0, 19) (by decide)
    obtain ⟨z1, e1⟩ : ∃ z : Ky, f 1 = .agg #[.int .i64 z.src.k, .int .i64 z.src.a, .int .i64 z.src.b, .int .i64 z.src.c, .int .i64 z.src.d, .int .i64 z.dst.k, .int .i64 z.dst.a, .int .i64 z.dst.b, .int .i64 z.dst.c, .int .i64 z.dst.d, .int .i64 z.proto, .int .i64 z.sport, .int .i64 z.dport] := hf (1, 20) (by decide)
    simp only [List.foldl_cons, List.foldl_nil, e0, e1]
    clear e0 e1 hf
    have DV := Lib.hid hI
    clear hI
    go_simp
    obtain ⟨x1, h1⟩ := DV.out.q1
    obtain ⟨k1, h2⟩ := DV.out.q2
    have H1 := Lib.hid h1
    have H2 := Lib.hid h2
    clear h1 h2
    go_wp2
    (try simp only [Exit.inBlock, Exit.then])
    refine bodyPost_ret (v := .tuple #[.agg #[.int .i64 x1.prio, .int .i64 x1.src.base.k, .int .i64 x1.src.base.a, .int .i64 x1.src.base.b, .int .i64 x1.src.base.c, .int .i64 x1.src.base.d, .int .i64 x1.src.len, .int .i64 x1.dst.base.k, .int .i64 x1.dst.base.a, .int .i64 x1.dst.base.b, .int .i64 x1.dst.base.c, .int .i64 x1.dst.base.d, .int .i64 x1.dst.len, .int .i64 x1.proto, .int .i64 x1.slo, .int .i64 x1.shi, .int .i64 x1.dlo, .int .i64 x1.dhi, .int .i64 x1.tenant, .int .i64 x1.weight, .int .i64 x1.chain], .agg #[.int .i64 k1.src.k, .int .i64 k1.src.a, .int .i64 k1.src.b, .int .i64 k1.src.c, .int .i64 k1.src.d, .int .i64 k1.dst.k, .int .i64 k1.dst.a, .int .i64 k1.dst.b, .int .i64 k1.dst.c, .int .i64 k1.dst.d, .int .i64 k1.proto, .int .i64 k1.sport, .int .i64 k1.dport]]) ?_ rfl ⟨x1, k1, rfl, DV.out.bel⟩
    exact res_cell_cellD Try.results33 _ _ _ w.heap.size (w.heap.size + 1) _ _ rfl rfl (run_loadVar_row _ _ 53 53 _ (0, 0) _ H1.out Try.underlying53 rfl info_rule) (run_loadVar_row _ _ 55 55 _ (0, 0) _ H2.out Try.underlying55 rfl info_key)
end Go.Proofs.Ytdndanbalmoklaa
