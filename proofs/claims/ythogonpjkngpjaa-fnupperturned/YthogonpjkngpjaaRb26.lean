/-
  The model's draw of an upper layer with its addresses.
-/
import Derived.Test.YthogonpjkngpjaaRb06
import Derived.Test.YthogonpjkngpjaaRb23
import Derived.Test.YthogonpjkngpjaaRb08
import Derived.Test.YthogonpjkngpjaaRb25
import Derived.Deep.Cut
namespace Go.Proofs.Ythogonpjkngpjaa
set_option maxRecDepth 100000
open Go.RowKit

theorem res3 {fn : Func} {p q r : Tmp} {tp tq tr : TypeId} (h : fn.results = #[.cell p tp, .cell q tq, .cell r tr]) (tmps : Array Value) (P : Program) (w : World) (i j k : Nat) (cp cq cr : Array Value)
    (hp : tmps.getD p undef = .pointer (some ⟨i, 0, none⟩)) (hq : tmps.getD q undef = .pointer (some ⟨j, 0, none⟩)) (hr : tmps.getD r undef = .pointer (some ⟨k, 0, none⟩))
    (lp : (loadVar tp ⟨i, 0, none⟩).run P w = .ok (.agg cp) w) (lq : (loadVar tq ⟨j, 0, none⟩).run P w = .ok (.agg cq) w) (lr : (loadVar tr ⟨k, 0, none⟩).run P w = .ok (.agg cr) w) :
    (results fn tmps).run P w = .ok (.tuple #[.agg cp, .agg cq, .agg cr]) w := by
  have hp' : tmps[p]?.getD undef = .pointer (some ⟨i, 0, none⟩) := by simpa using hp
  have hq' : tmps[q]?.getD undef = .pointer (some ⟨j, 0, none⟩) := by simpa using hq
  have hr' : tmps[r]?.getD undef = .pointer (some ⟨k, 0, none⟩) := by simpa using hr
  simp [results, h, hp', hq', hr', asAddr, lp, lq, lr]
theorem ownBlk (A : Option Addr) (n c m : Nat) : (Value.slice A n c).ownBlock = (Value.slice A m c).ownBlock := by
  cases A <;> simp [Value.ownBlock]
theorem storeAd {ops : Array Oper} {rest : List Oper} {o : Oper} {a : Act} {w : World} {Q : Exit → Act → World → Prop} (hgd : o.guard = none) (x y : Operand) (ho : o.op = .store 27 x y) (g : Nat) {n0 n1 n2 n3 n4 : Int} (hx : a.eval x = .pointer (some ⟨g, 0, none⟩)) (hy : a.eval y = .agg #[.int .i64 n0, .int .i64 n1, .int .i64 n2, .int .i64 n3, .int .i64 n4]) {t : TypeId} {u0 u1 u2 u3 u4 : Value}
    (hg : w.heap[g]? = some (.cells #[u0, u1, u2, u3, u4] t (0, 0))) (h : wpList Try.prog ops Q rest (a.put o.dst undef) (w.setRow g #[.int .i64 n0, .int .i64 n1, .int .i64 n2, .int .i64 n3, .int .i64 n4])) : wpList Try.prog ops Q (o :: rest) a w :=
  wpList_store_row hgd 27 x y ho g _ hx hy t _ hg info_addrP rfl (by simp [Value.oneCell']) h
section
variable {o : Oper} {a : Act} {w : World} {K : Act → World → Prop} {Q : Exit → Act → World → Prop}
theorem u_cutF (x : Operand) (u v : Value) (ho : o.op = .slice 34 x none (some (.const (.int .i64 0))) none) (hx : a.eval x = u) (h : ∀ w, (Instr.sliceAt 34 u none (some (.int .i64 0)) none).run Try.prog w = .ok v w) (hK : K (a.put o.dst v) w) : o.wp Try.prog a w K Q := by
  unfold Oper.wp execOp
  simp only [ho, Option.map, hx, show ∀ v, a.eval (.const v) = v from fun _ => rfl, Sem.run_bind, Sem.run_pure, h, Result.andThen_ok]
  exact hK
theorem wp_append_f (s x : Operand) (ho : o.op = .call { callee := .builtin .append, args := #[s, x], argTypes := #[34, 34] }) (base : Nat) (v : Value) (hs : a.eval s = v) (hown : w.ownsRow base 5 1 v 0 (cellsOf []))
    (B : Nat) (A : Option Addr) (m c : Nat) (ds : List UInt8) (hx : a.eval x = .slice A m c) (hm : ds.length = m) (hr : RB w B A ds) (hn : ds.length ≤ 67108864) (hbase : base ≤ w.heap.size)
    (h : ∀ E k w', w'.ownsRow base 5 1 (.slice E m k) m (cellsOf ds) → w.grownBy w' v.ownBlock → K (a.put o.dst (.slice E m k)) w') : o.wp Try.prog a w K Q := by
  obtain ⟨v', w', hrun, h2, h3, _⟩ := run_append_b w o.type base v [] hown B A m c ds hm hr (by simpa using hn) hbase
  unfold Oper.wp execOp
  simp only [ho, resolve, invoke, builtin, Sem.run_bind, Sem.run_pure, Result.andThen_ok, List.map_toArray, List.map_cons, List.map_nil, hs, hx, hrun]
  rw [List.nil_append, hm] at h2
  obtain ⟨E, k, rfl⟩ := own_form h2
  exact h E k w' h2 h3
end
/-- What the draw leaves: some upper layer, two addresses. -/
def DUSOut (w : World) (e : Ending) (w' : World) : Prop :=
  ∃ (x : Uh) (os ds : List UInt8) (s t : Ad) (A : Option Addr) (c : Nat) (D : Option Addr) (d : Nat), os.length ≤ 45 ∧ ds.length ≤ 1500 ∧ e = .returned (.tuple #[.agg #[.int .i64 x.kind, .int .i64 x.sport, .int .i64 x.dport, .int .i64 x.seq, .int .i64 x.ack, .int .i64 x.bits, .int .i64 x.window, .int .i64 x.urgent, .int .i64 x.ty, .int .i64 x.code, .int .i64 x.rest, .bool x.nosum, .slice A os.length c, .slice D ds.length d], .agg #[.int .i64 s.k, .int .i64 s.a, .int .i64 s.b, .int .i64 s.c, .int .i64 s.d], .agg #[.int .i64 t.k, .int .i64 t.a, .int .i64 t.b, .int .i64 t.c, .int .i64 t.d]]) ∧
    w'.ownsRow w.heap.size 5 1 (.slice A os.length c) os.length (cellsOf os) ∧ w'.ownsRow w.heap.size 5 1 (.slice D ds.length d) ds.length (cellsOf ds) ∧ Below w.heap.size w w'
theorem own_neU {w : World} {base n c b : Nat} {A : Option Addr} {xs : List Value} {cs : Array Value} (h : w.ownsRow base 5 1 (.slice A n c) n xs) (hb : w.heap[b]? = some (.cells cs 36 (0, 0))) : ∀ k, (Value.slice A n c).ownBlock = some k → k ≠ b := by
  intro k hk e
  subst e
  rcases h.2 with ⟨h1, _⟩ | ⟨g, cap, cur, hv, _, hh, _⟩
  · rw [h1] at hk
    simp [Value.ownBlock] at hk
  · rw [hv] at hk
    simp [Value.ownBlock] at hk
    subst hk
    rw [hh] at hb
    simp at hb

set_option maxHeartbeats 16000000 in
theorem drawUpSum (A : Option Addr) (n c : Nat) (bs : List UInt8) (w : World) (hr : RB w w.heap.size A bs) (hl : bs.length = n) (hn : n ≤ 1048576) : Calls Try.prog 25 #[.slice A n c] w (DUSOut w) := by
  have hbl : bs.length ≤ 1048576 := by omega
  obtain ⟨k, s1, hkk, hd1⟩ := kindE bs 0 (71 + bs.length % 1000) (by omega)
  have H1 := Lib.hid hd1
  clear hd1
  obtain ⟨y1, t2, s2, ht2, hd2⟩ := addrKE bs (0 + 1) s1 k hkk (by omega)
  have H2 := Lib.hid hd2
  clear hd2
  obtain ⟨y2, t3, s3, ht3, hd3⟩ := addrKE bs t2 s2 k hkk (by omega)
  have H3 := Lib.hid hd3
  clear hd3
  obtain ⟨o1, s4, hd4⟩ := onceE bs t3 s3 9 (by omega) (by omega) (by omega)
  have H4 := Lib.hid hd4
  clear hd4
  have ru0 : Hid ((((w.alloc (.cells #[.int .i64 0, .int .i64 0, .int .i64 0, .int .i64 0, .int .i64 0, .int .i64 0, .int .i64 0, .int .i64 0, .int .i64 0, .int .i64 0, .int .i64 0, .bool false, .slice none 0 0, .slice none 0 0] 36)).alloc (.cells #[.int .i64 0, .int .i64 0, .int .i64 0, .int .i64 0, .int .i64 0] 27)).alloc (.cells #[.int .i64 0, .int .i64 0, .int .i64 0, .int .i64 0, .int .i64 0] 27)).heap[w.heap.size]? = some (.cells #[.int .i64 0, .int .i64 0, .int .i64 0, .int .i64 0, .int .i64 0, .int .i64 0, .int .i64 0, .int .i64 0, .int .i64 0, .int .i64 0, .int .i64 0, .bool false, .slice none 0 0, .slice none 0 0] 36)) := Lib.hid (by repeat (first | exact K.newAt (by first | rfl | (simp; done)) | refine K.oldAt (by first | (simp; done) | (simp; omega)) ?_))
  have ra0 : Hid ((((w.alloc (.cells #[.int .i64 0, .int .i64 0, .int .i64 0, .int .i64 0, .int .i64 0, .int .i64 0, .int .i64 0, .int .i64 0, .int .i64 0, .int .i64 0, .int .i64 0, .bool false, .slice none 0 0, .slice none 0 0] 36)).alloc (.cells #[.int .i64 0, .int .i64 0, .int .i64 0, .int .i64 0, .int .i64 0] 27)).alloc (.cells #[.int .i64 0, .int .i64 0, .int .i64 0, .int .i64 0, .int .i64 0] 27)).heap[w.heap.size + 1]? = some (.cells #[.int .i64 0, .int .i64 0, .int .i64 0, .int .i64 0, .int .i64 0] 27)) := Lib.hid (K.old (show ((w.alloc (.cells #[.int .i64 0, .int .i64 0, .int .i64 0, .int .i64 0, .int .i64 0, .int .i64 0, .int .i64 0, .int .i64 0, .int .i64 0, .int .i64 0, .int .i64 0, .bool false, .slice none 0 0, .slice none 0 0] 36)).alloc (.cells #[.int .i64 0, .int .i64 0, .int .i64 0, .int .i64 0, .int .i64 0] 27)).heap[w.heap.size + 1]? = some (.cells #[.int .i64 0, .int .i64 0, .int .i64 0, .int .i64 0, .int .i64 0] 27) from K.newAt (by simp)) _)
  have rb0 : Hid ((((w.alloc (.cells #[.int .i64 0, .int .i64 0, .int .i64 0, .int .i64 0, .int .i64 0, .int .i64 0, .int .i64 0, .int .i64 0, .int .i64 0, .int .i64 0, .int .i64 0, .bool false, .slice none 0 0, .slice none 0 0] 36)).alloc (.cells #[.int .i64 0, .int .i64 0, .int .i64 0, .int .i64 0, .int .i64 0] 27)).alloc (.cells #[.int .i64 0, .int .i64 0, .int .i64 0, .int .i64 0, .int .i64 0] 27)).heap[w.heap.size + 1 + 1]? = some (.cells #[.int .i64 0, .int .i64 0, .int .i64 0, .int .i64 0, .int .i64 0] 27)) := Lib.hid (K.newAt (by simp))
  have B0 : Hid (Below w.heap.size w (((w.alloc (.cells #[.int .i64 0, .int .i64 0, .int .i64 0, .int .i64 0, .int .i64 0, .int .i64 0, .int .i64 0, .int .i64 0, .int .i64 0, .int .i64 0, .int .i64 0, .bool false, .slice none 0 0, .slice none 0 0] 36)).alloc (.cells #[.int .i64 0, .int .i64 0, .int .i64 0, .int .i64 0, .int .i64 0] 27)).alloc (.cells #[.int .i64 0, .int .i64 0, .int .i64 0, .int .i64 0, .int .i64 0] 27))) := Lib.hid (by go_grown)
  have RD := Lib.hid hr
  have HL := Lib.hid hl
  have e1 : (((w.alloc (.cells #[.int .i64 0, .int .i64 0, .int .i64 0, .int .i64 0, .int .i64 0, .int .i64 0, .int .i64 0, .int .i64 0, .int .i64 0, .int .i64 0, .int .i64 0, .bool false, .slice none 0 0, .slice none 0 0] 36)).alloc (.cells #[.int .i64 0, .int .i64 0, .int .i64 0, .int .i64 0, .int .i64 0] 27)).alloc (.cells #[.int .i64 0, .int .i64 0, .int .i64 0, .int .i64 0, .int .i64 0] 27)).heap.size = w.heap.size + 1 + 1 + 1 := by simp
  clear hr hl
  go_enter Try.func25, Try.ntmps25
  go_wp2_with fail
  refine (openD A n c bs _ ((RD.out.below B0.out).more B0.out.size) HL.out hn).mono ?_
  rintro e w1 ⟨rfl, c1, b1⟩
  rw [e1] at c1
  rw [e1]
  have ru1 := Lib.hid (K.below b1 ru0.out)
  have ra1 := Lib.hid (K.below b1 ra0.out)
  have rb1 := Lib.hid (K.below b1 rb0.out)
  have B1 := Lib.hid (bthen B0.out b1)
  have C1 := Lib.hid c1
  clear b1 c1 e1 ru0 ra0 rb0 B0
  go_wp2_with fail
  refine Calls.mono (H1.out _ (w.heap.size + 1 + 1 + 1) A c C1.out) ?_
  rintro e w2 ⟨rfl, hc2, hg2⟩
  have ru2 := Lib.hid (K.kept hg2 ru1.out (fun k hk => by cases hk; omega))
  have ra2 := Lib.hid (K.kept hg2 ra1.out (fun k hk => by cases hk; omega))
  have rb2 := Lib.hid (K.kept hg2 rb1.out (fun k hk => by cases hk; omega))
  have C2 := Lib.hid hc2
  have B2 := Lib.hid (bgrown B1.out hg2 (fun k hk => by cases hk; omega))
  clear hc2 hg2 ru1 ra1 rb1 C1 B1
  go_wp2_with fail
  refine Calls.mono (H2.out _ (w.heap.size + 1 + 1 + 1) A c C2.out) ?_
  rintro e w11 ⟨rfl, hc2, hg2⟩
  have ru3 := Lib.hid (K.kept hg2 ru2.out (fun k hk => by cases hk; omega))
  have ra3 := Lib.hid (K.kept hg2 ra2.out (fun k hk => by cases hk; omega))
  have rb3 := Lib.hid (K.kept hg2 rb2.out (fun k hk => by cases hk; omega))
  have C3 := Lib.hid hc2
  have B3 := Lib.hid (bgrown B2.out hg2 (fun k hk => by cases hk; omega))
  clear hc2 hg2 ru2 ra2 rb2 C2 B2
  go_wp2_with fail
  refine Calls.mono (H3.out _ (w.heap.size + 1 + 1 + 1) A c C3.out) ?_
  rintro e w3 ⟨rfl, hc2, hg2⟩
  have ru4 := Lib.hid (K.kept hg2 ru3.out (fun k hk => by cases hk; omega))
  have ra4 := Lib.hid (K.kept hg2 ra3.out (fun k hk => by cases hk; omega))
  have rb4 := Lib.hid (K.kept hg2 rb3.out (fun k hk => by cases hk; omega))
  have C4 := Lib.hid hc2
  have B4 := Lib.hid (bgrown B3.out hg2 (fun k hk => by cases hk; omega))
  clear hc2 hg2 ru3 ra3 rb3 C3 B3
  have ru5 := Lib.hid (K.old (K.old ru4.out (.cells #[.int .i64 y1.k, .int .i64 y1.a, .int .i64 y1.b, .int .i64 y1.c, .int .i64 y1.d] 27)) (.cells #[.int .i64 y2.k, .int .i64 y2.a, .int .i64 y2.b, .int .i64 y2.c, .int .i64 y2.d] 27))
  have ra5 := Lib.hid (K.old (K.old ra4.out (.cells #[.int .i64 y1.k, .int .i64 y1.a, .int .i64 y1.b, .int .i64 y1.c, .int .i64 y1.d] 27)) (.cells #[.int .i64 y2.k, .int .i64 y2.a, .int .i64 y2.b, .int .i64 y2.c, .int .i64 y2.d] 27))
  have rb5 := Lib.hid (K.old (K.old rb4.out (.cells #[.int .i64 y1.k, .int .i64 y1.a, .int .i64 y1.b, .int .i64 y1.c, .int .i64 y1.d] 27)) (.cells #[.int .i64 y2.k, .int .i64 y2.a, .int .i64 y2.b, .int .i64 y2.c, .int .i64 y2.d] 27))
  have C5 := Lib.hid (C4.out.below (Joins.below_alloc2 w3 (.cells #[.int .i64 y1.k, .int .i64 y1.a, .int .i64 y1.b, .int .i64 y1.c, .int .i64 y1.d] 27) (.cells #[.int .i64 y2.k, .int .i64 y2.a, .int .i64 y2.b, .int .i64 y2.c, .int .i64 y2.d] 27)))
  have B5 := Lib.hid (bthen B4.out (Joins.below_alloc2 w3 (.cells #[.int .i64 y1.k, .int .i64 y1.a, .int .i64 y1.b, .int .i64 y1.c, .int .i64 y1.d] 27) (.cells #[.int .i64 y2.k, .int .i64 y2.a, .int .i64 y2.b, .int .i64 y2.c, .int .i64 y2.d] 27)))
  have p75 : Hid (((w3.alloc (.cells #[.int .i64 y1.k, .int .i64 y1.a, .int .i64 y1.b, .int .i64 y1.c, .int .i64 y1.d] 27)).alloc (.cells #[.int .i64 y2.k, .int .i64 y2.a, .int .i64 y2.b, .int .i64 y2.c, .int .i64 y2.d] 27)).heap[w3.heap.size]? = some (.cells #[.int .i64 y1.k, .int .i64 y1.a, .int .i64 y1.b, .int .i64 y1.c, .int .i64 y1.d] 27)) := Lib.hid (by repeat (first | exact K.newAt (by first | rfl | (simp; done)) | refine K.oldAt (by first | (simp; done) | (simp; omega)) ?_))
  have p85 : Hid (((w3.alloc (.cells #[.int .i64 y1.k, .int .i64 y1.a, .int .i64 y1.b, .int .i64 y1.c, .int .i64 y1.d] 27)).alloc (.cells #[.int .i64 y2.k, .int .i64 y2.a, .int .i64 y2.b, .int .i64 y2.c, .int .i64 y2.d] 27)).heap[w3.heap.size + 1]? = some (.cells #[.int .i64 y2.k, .int .i64 y2.a, .int .i64 y2.b, .int .i64 y2.c, .int .i64 y2.d] 27)) := Lib.hid (by repeat (first | exact K.newAt (by first | rfl | (simp; done)) | refine K.oldAt (by first | (simp; done) | (simp; omega)) ?_))
  have l3 : w.heap.size + 1 + 1 + 1 < w3.heap.size := C4.out.lt
  clear ru4 ra4 rb4 C4 B4
  go_wp2_with fail
  generalize ((w3.alloc (.cells #[.int .i64 y1.k, .int .i64 y1.a, .int .i64 y1.b, .int .i64 y1.c, .int .i64 y1.d] 27)).alloc (.cells #[.int .i64 y2.k, .int .i64 y2.a, .int .i64 y2.b, .int .i64 y2.c, .int .i64 y2.d] 27)) = w4 at ru5 ra5 rb5 p75 p85 C5 B5 ⊢
  cases o1 with
  | false =>
    refine Calls.mono (H4.out _ (w.heap.size + 1 + 1 + 1) A c C5.out) ?_
    rintro e w20 ⟨rfl, hc2, hg2⟩
    have ru6 := Lib.hid (K.kept hg2 ru5.out (fun k hk => by cases hk; omega))
    have ra6 := Lib.hid (K.kept hg2 ra5.out (fun k hk => by cases hk; omega))
    have rb6 := Lib.hid (K.kept hg2 rb5.out (fun k hk => by cases hk; omega))
    have p76 := Lib.hid (K.kept hg2 p75.out (fun k hk => by cases hk; omega))
    have p86 := Lib.hid (K.kept hg2 p85.out (fun k hk => by cases hk; omega))
    have C6 := Lib.hid hc2
    have B6 := Lib.hid (bgrown B5.out hg2 (fun k hk => by cases hk; omega))
    clear hc2 hg2 ru5 ra5 rb5 p75 p85 C5 B5
    obtain ⟨v1, sv, lov, upv, hdv⟩ := pickE bs (t3 + 1) s4 3 (by omega) (by omega) (by omega)
    have HV := Lib.hid hdv
    clear hdv
    have mv : IntKind.i64.wrap (1 + v1) = 1 + v1 := by rw [IntKind.wrap_i64]; omega
    obtain ⟨x, os, ds, t6, s6, hos, hds, ht6, hdu⟩ := badUpE (1 + v1) k (by omega) hkk bs (t3 + 1 + 1) sv (by omega) hbl
    have HU := Lib.hid hdu
    clear hdu
    go_wp2_with fail
    refine Calls.mono (HV.out _ (w.heap.size + 1 + 1 + 1) A c C6.out) ?_
    rintro e w5 ⟨rfl, hc2, hg2⟩
    have ru7 := Lib.hid (K.kept hg2 ru6.out (fun k hk => by cases hk; omega))
    have ra7 := Lib.hid (K.kept hg2 ra6.out (fun k hk => by cases hk; omega))
    have rb7 := Lib.hid (K.kept hg2 rb6.out (fun k hk => by cases hk; omega))
    have p77 := Lib.hid (K.kept hg2 p76.out (fun k hk => by cases hk; omega))
    have p87 := Lib.hid (K.kept hg2 p86.out (fun k hk => by cases hk; omega))
    have C7 := Lib.hid hc2
    have B7 := Lib.hid (bgrown B6.out hg2 (fun k hk => by cases hk; omega))
    clear hc2 hg2 ru6 ra6 rb6 p76 p86 C6 B6
    go_wp2_with fail
    have l5 := K.lt p87.out
    have lC5 := C7.out.lt
    refine Calls.mono (HU.out _ (w.heap.size + 1 + 1 + 1) A c C7.out) ?_
    rintro e w6 ⟨O, oc, D0, d0, rfl, oo, od, ap, hc2, hg2⟩
    have ru8 := Lib.hid (K.kept hg2 ru7.out (fun k hk => by cases hk; omega))
    have ra8 := Lib.hid (K.kept hg2 ra7.out (fun k hk => by cases hk; omega))
    have rb8 := Lib.hid (K.kept hg2 rb7.out (fun k hk => by cases hk; omega))
    have p78 := Lib.hid (K.kept hg2 p77.out (fun k hk => by cases hk; omega))
    have p88 := Lib.hid (K.kept hg2 p87.out (fun k hk => by cases hk; omega))
    have C8 := Lib.hid hc2
    have B8 := Lib.hid (bgrown B7.out hg2 (fun k hk => by cases hk; omega))
    clear hc2  ru7 ra7 rb7 p77 p87 C7 B7
    have ru9 := Lib.hid (K.old ru8.out (.cells #[.int .i64 x.kind, .int .i64 x.sport, .int .i64 x.dport, .int .i64 x.seq, .int .i64 x.ack, .int .i64 x.bits, .int .i64 x.window, .int .i64 x.urgent, .int .i64 x.ty, .int .i64 x.code, .int .i64 x.rest, .bool x.nosum, .slice O os.length oc, .slice D0 ds.length d0] 36))
    have ra9 := Lib.hid (K.old ra8.out (.cells #[.int .i64 x.kind, .int .i64 x.sport, .int .i64 x.dport, .int .i64 x.seq, .int .i64 x.ack, .int .i64 x.bits, .int .i64 x.window, .int .i64 x.urgent, .int .i64 x.ty, .int .i64 x.code, .int .i64 x.rest, .bool x.nosum, .slice O os.length oc, .slice D0 ds.length d0] 36))
    have rb9 := Lib.hid (K.old rb8.out (.cells #[.int .i64 x.kind, .int .i64 x.sport, .int .i64 x.dport, .int .i64 x.seq, .int .i64 x.ack, .int .i64 x.bits, .int .i64 x.window, .int .i64 x.urgent, .int .i64 x.ty, .int .i64 x.code, .int .i64 x.rest, .bool x.nosum, .slice O os.length oc, .slice D0 ds.length d0] 36))
    have p79 := Lib.hid (K.old p78.out (.cells #[.int .i64 x.kind, .int .i64 x.sport, .int .i64 x.dport, .int .i64 x.seq, .int .i64 x.ack, .int .i64 x.bits, .int .i64 x.window, .int .i64 x.urgent, .int .i64 x.ty, .int .i64 x.code, .int .i64 x.rest, .bool x.nosum, .slice O os.length oc, .slice D0 ds.length d0] 36))
    have p89 := Lib.hid (K.old p88.out (.cells #[.int .i64 x.kind, .int .i64 x.sport, .int .i64 x.dport, .int .i64 x.seq, .int .i64 x.ack, .int .i64 x.bits, .int .i64 x.window, .int .i64 x.urgent, .int .i64 x.ty, .int .i64 x.code, .int .i64 x.rest, .bool x.nosum, .slice O os.length oc, .slice D0 ds.length d0] 36))
    have C9 := Lib.hid (C8.out.below (Joins.below_alloc1 w6 (.cells #[.int .i64 x.kind, .int .i64 x.sport, .int .i64 x.dport, .int .i64 x.seq, .int .i64 x.ack, .int .i64 x.bits, .int .i64 x.window, .int .i64 x.urgent, .int .i64 x.ty, .int .i64 x.code, .int .i64 x.rest, .bool x.nosum, .slice O os.length oc, .slice D0 ds.length d0] 36)))
    have B9 := Lib.hid (bthen B8.out (Joins.below_alloc1 w6 (.cells #[.int .i64 x.kind, .int .i64 x.sport, .int .i64 x.dport, .int .i64 x.seq, .int .i64 x.ack, .int .i64 x.bits, .int .i64 x.window, .int .i64 x.urgent, .int .i64 x.ty, .int .i64 x.code, .int .i64 x.rest, .bool x.nosum, .slice O os.length oc, .slice D0 ds.length d0] 36)))
    have q9 := Lib.hid (K.new w6 (.cells #[.int .i64 x.kind, .int .i64 x.sport, .int .i64 x.dport, .int .i64 x.seq, .int .i64 x.ack, .int .i64 x.bits, .int .i64 x.window, .int .i64 x.urgent, .int .i64 x.ty, .int .i64 x.code, .int .i64 x.rest, .bool x.nosum, .slice O os.length oc, .slice D0 ds.length d0] 36))
    have O9 := Lib.hid (World.ownsRow.alloc oo (.cells #[.int .i64 x.kind, .int .i64 x.sport, .int .i64 x.dport, .int .i64 x.seq, .int .i64 x.ack, .int .i64 x.bits, .int .i64 x.window, .int .i64 x.urgent, .int .i64 x.ty, .int .i64 x.code, .int .i64 x.rest, .bool x.nosum, .slice O os.length oc, .slice D0 ds.length d0] 36))
    have D9 := Lib.hid (World.ownsRow.alloc od (.cells #[.int .i64 x.kind, .int .i64 x.sport, .int .i64 x.dport, .int .i64 x.seq, .int .i64 x.ack, .int .i64 x.bits, .int .i64 x.window, .int .i64 x.urgent, .int .i64 x.ty, .int .i64 x.code, .int .i64 x.rest, .bool x.nosum, .slice O os.length oc, .slice D0 ds.length d0] 36))
    have AP := Lib.hid ap
    have LD := Lib.hid (fun k hk => od.lt k hk)
    have LO := Lib.hid (fun k hk => oo.lt k hk)
    have l6 : w5.heap.size ≤ w6.heap.size := hg2.size
    clear oo od ap hg2 ru8 ra8 rb8 p78 p88 C8 B8
    go_wp2_with (with_reducible refine storeNewU rfl _ _ rfl rfl rfl ?_)
    generalize w6.alloc (.cells #[.int .i64 x.kind, .int .i64 x.sport, .int .i64 x.dport, .int .i64 x.seq, .int .i64 x.ack, .int .i64 x.bits, .int .i64 x.window, .int .i64 x.urgent, .int .i64 x.ty, .int .i64 x.code, .int .i64 x.rest, .bool x.nosum, .slice O os.length oc, .slice D0 ds.length d0] 36) = w7 at ru9 ra9 rb9 p79 p89 q9 C9 B9 O9 D9 ⊢
    obtain ⟨o2, s7, hdo⟩ := onceE bs t6 s6 6 (by omega) (by omega) (by omega)
    have HO2 := Lib.hid hdo
    clear hdo
    cases o2 with
    | false =>
      refine Calls.mono (HO2.out _ (w.heap.size + 1 + 1 + 1) A c C9.out) ?_
      rintro e w8 ⟨rfl, hc2, hg2⟩
      have ru10 := Lib.hid (K.kept hg2 ru9.out (fun k hk => by cases hk; omega))
      have ra10 := Lib.hid (K.kept hg2 ra9.out (fun k hk => by cases hk; omega))
      have rb10 := Lib.hid (K.kept hg2 rb9.out (fun k hk => by cases hk; omega))
      have p710 := Lib.hid (K.kept hg2 p79.out (fun k hk => by cases hk; omega))
      have p810 := Lib.hid (K.kept hg2 p89.out (fun k hk => by cases hk; omega))
      have q10 := Lib.hid (K.kept hg2 q9.out (fun k hk => by cases hk; omega))
      have C10 := Lib.hid hc2
      have B10 := Lib.hid (bgrown B9.out hg2 (fun k hk => by cases hk; omega))
      have O10 := Lib.hid (own_grown O9.out hg2 (fun k h1 h2 => by cases h2; have := (O9.out.lt _ h1).1; omega))
      have D10 := Lib.hid (own_grown D9.out hg2 (fun k h1 h2 => by cases h2; have := (D9.out.lt _ h1).1; omega))
      clear hc2 hg2 ru9 ra9 rb9 p79 p89 q9 C9 B9 O9 D9
      go_upto_region 11 with fail
      refine wp_region_links (by kernel_rfl) [2, 3, 4, 7, 8, 9] [3, 4, 5] 56 [(0, 53), (1, 54), (2, 55)] [some (.agg #[.int .i64 x.kind, .int .i64 x.sport, .int .i64 x.dport, .int .i64 x.seq, .int .i64 x.ack, .int .i64 x.bits, .int .i64 x.window, .int .i64 x.urgent, .int .i64 x.ty, .int .i64 x.code, .int .i64 x.rest, .bool x.nosum, .slice O os.length oc, .slice D0 ds.length d0]), some (.agg #[.int .i64 y1.k, .int .i64 y1.a, .int .i64 y1.b, .int .i64 y1.c, .int .i64 y1.d]), some (.agg #[.int .i64 y2.k, .int .i64 y2.a, .int .i64 y2.b, .int .i64 y2.c, .int .i64 y2.d])] (fun m v => Below w.heap.size w v ∧ v.heap[w6.heap.size]? = some (.cells #[.int .i64 x.kind, .int .i64 x.sport, .int .i64 x.dport, .int .i64 x.seq, .int .i64 x.ack, .int .i64 x.bits, .int .i64 x.window, .int .i64 x.urgent, .int .i64 x.ty, .int .i64 x.code, .int .i64 x.rest, .bool x.nosum, .slice O os.length oc, .slice D0 ds.length d0] 36 (0, 0)) ∧ v.heap[w3.heap.size]? = some (.cells #[.int .i64 y1.k, .int .i64 y1.a, .int .i64 y1.b, .int .i64 y1.c, .int .i64 y1.d] 27 (0, 0)) ∧ v.heap[w3.heap.size + 1]? = some (.cells #[.int .i64 y2.k, .int .i64 y2.a, .int .i64 y2.b, .int .i64 y2.c, .int .i64 y2.d] 27 (0, 0)) ∧ v.ownsRow (w.heap.size + 1 + 1 + 1) 5 1 (.slice O os.length oc) os.length (cellsOf os) ∧ v.ownsRow (w.heap.size + 1 + 1 + 1) 5 1 (.slice D0 (ds).length d0) (ds).length (cellsOf (ds)) ∧ v.heap[w.heap.size]? = some (if m = 0 then .cells #[.int .i64 0, .int .i64 0, .int .i64 0, .int .i64 0, .int .i64 0, .int .i64 0, .int .i64 0, .int .i64 0, .int .i64 0, .int .i64 0, .int .i64 0, .bool false, .slice none 0 0, .slice none 0 0] 36 (0, 0) else .cells #[.int .i64 x.kind, .int .i64 x.sport, .int .i64 x.dport, .int .i64 x.seq, .int .i64 x.ack, .int .i64 x.bits, .int .i64 x.window, .int .i64 x.urgent, .int .i64 x.ty, .int .i64 x.code, .int .i64 x.rest, .bool x.nosum, .slice O os.length oc, .slice D0 ds.length d0] 36 (0, 0)) ∧ v.heap[w.heap.size + 1]? = some (if m ≤ 1 then .cells #[.int .i64 0, .int .i64 0, .int .i64 0, .int .i64 0, .int .i64 0] 27 (0, 0) else .cells #[.int .i64 y1.k, .int .i64 y1.a, .int .i64 y1.b, .int .i64 y1.c, .int .i64 y1.d] 27 (0, 0)) ∧ v.heap[w.heap.size + 1 + 1]? = some (if m ≤ 2 then .cells #[.int .i64 0, .int .i64 0, .int .i64 0, .int .i64 0, .int .i64 0] 27 (0, 0) else .cells #[.int .i64 y2.k, .int .i64 y2.a, .int .i64 y2.b, .int .i64 y2.c, .int .i64 y2.d] 27 (0, 0))) (by kernel_rfl) (by kernel_rfl) (by kernel_rfl) rfl ⟨⟨B10.out.os, B10.out.tape, B10.out.output, B10.out.size, B10.out.block⟩, q10.out, p710.out, p810.out, own_base O10.out (by omega), own_base D10.out (by omega), ru10.out, ra10.out, rb10.out⟩ ?_ ?_
      · intro j o ho m a' v K' hx hnd hm hI hK
        obtain ⟨i0, i1, i2, i3, i4, i5, i6, i7, i8⟩ := hI
        match j, ho with
        | 0, ho =>
          obtain rfl := Option.some.inj ho
          have h0 : a'.eval (.tmp 9) = .pointer (some ⟨w6.heap.size, 0, none⟩) := (hx 9 (by decide)).trans rfl
          exact wp_load_row 36 _ rfl w6.heap.size h0 _ _ (0, 0) _ i1 Try.underlying36 rfl info_up (hK _ _ (fun x hx => Option.some.inj hx) ⟨i0, i1, i2, i3, i4, i5, i6, i7, i8⟩)
        | 1, ho =>
          obtain rfl := Option.some.inj ho
          have h0 : a'.eval (.tmp 7) = .pointer (some ⟨w3.heap.size, 0, none⟩) := (hx 7 (by decide)).trans rfl
          exact wp_load_row 27 _ rfl w3.heap.size h0 _ _ (0, 0) _ i2 Try.underlying27 rfl info_addrP (hK _ _ (fun x hx => Option.some.inj hx) ⟨i0, i1, i2, i3, i4, i5, i6, i7, i8⟩)
        | 2, ho =>
          obtain rfl := Option.some.inj ho
          have h0 : a'.eval (.tmp 8) = .pointer (some ⟨(w3.heap.size + 1), 0, none⟩) := (hx 8 (by decide)).trans rfl
          exact wp_load_row 27 _ rfl (w3.heap.size + 1) h0 _ _ (0, 0) _ i3 Try.underlying27 rfl info_addrP (hK _ _ (fun x hx => Option.some.inj hx) ⟨i0, i1, i2, i3, i4, i5, i6, i7, i8⟩)
        | 3, ho =>
          obtain rfl := Option.some.inj ho
          obtain rfl : 0 = m := hm 0 rfl
          have h0 : a'.eval (.tmp 2) = .pointer (some ⟨w.heap.size, 0, none⟩) := (hx 2 (by decide)).trans rfl
          have h1 : a'.eval (.tmp 53) = .agg #[.int .i64 x.kind, .int .i64 x.sport, .int .i64 x.dport, .int .i64 x.seq, .int .i64 x.ack, .int .i64 x.bits, .int .i64 x.window, .int .i64 x.urgent, .int .i64 x.ty, .int .i64 x.code, .int .i64 x.rest, .bool x.nosum, .slice O os.length oc, .slice D0 ds.length d0] := links_of hnd 0 53 _ (by kernel_rfl) rfl
          exact wp_store_row 36 _ _ rfl w.heap.size _ h0 h1 _ _ i6 info_up rfl (by simp [Value.oneCell']) (hK _ _ (fun x hx => by cases hx) ⟨K.setRow_below i0 (by omega) _, (setRow_other _ _ _ _ (by omega)).trans i1, (setRow_other _ _ _ _ (by omega)).trans i2, (setRow_other _ _ _ _ (by omega)).trans i3, K.setRow_own _ i4 (by omega), K.setRow_own _ i5 (by omega), setRow_heap _ _ _ _ _ _ i6, (setRow_other _ _ _ _ (by omega)).trans i7, (setRow_other _ _ _ _ (by omega)).trans i8⟩)
        | 4, ho =>
          obtain rfl := Option.some.inj ho
          obtain rfl : 1 = m := hm 1 rfl
          have h0 : a'.eval (.tmp 3) = .pointer (some ⟨(w.heap.size + 1), 0, none⟩) := (hx 3 (by decide)).trans rfl
          have h1 : a'.eval (.tmp 54) = .agg #[.int .i64 y1.k, .int .i64 y1.a, .int .i64 y1.b, .int .i64 y1.c, .int .i64 y1.d] := links_of hnd 1 54 _ (by kernel_rfl) rfl
          exact wp_store_row 27 _ _ rfl (w.heap.size + 1) _ h0 h1 _ _ i7 info_addrP rfl (by simp [Value.oneCell']) (hK _ _ (fun x hx => by cases hx) ⟨K.setRow_below i0 (by omega) _, (setRow_other _ _ _ _ (by omega)).trans i1, (setRow_other _ _ _ _ (by omega)).trans i2, (setRow_other _ _ _ _ (by omega)).trans i3, K.setRow_own _ i4 (by omega), K.setRow_own _ i5 (by omega), (setRow_other _ _ _ _ (by omega)).trans i6, setRow_heap _ _ _ _ _ _ i7, (setRow_other _ _ _ _ (by omega)).trans i8⟩)
        | 5, ho =>
          obtain rfl := Option.some.inj ho
          obtain rfl : 2 = m := hm 2 rfl
          have h0 : a'.eval (.tmp 4) = .pointer (some ⟨(w.heap.size + 1 + 1), 0, none⟩) := (hx 4 (by decide)).trans rfl
          have h1 : a'.eval (.tmp 55) = .agg #[.int .i64 y2.k, .int .i64 y2.a, .int .i64 y2.b, .int .i64 y2.c, .int .i64 y2.d] := links_of hnd 2 55 _ (by kernel_rfl) rfl
          exact wp_store_row 27 _ _ rfl (w.heap.size + 1 + 1) _ h0 h1 _ _ i8 info_addrP rfl (by simp [Value.oneCell']) (hK _ _ (fun x hx => by cases hx) ⟨K.setRow_below i0 (by omega) _, (setRow_other _ _ _ _ (by omega)).trans i1, (setRow_other _ _ _ _ (by omega)).trans i2, (setRow_other _ _ _ _ (by omega)).trans i3, K.setRow_own _ i4 (by omega), K.setRow_own _ i5 (by omega), (setRow_other _ _ _ _ (by omega)).trans i6, (setRow_other _ _ _ _ (by omega)).trans i7, setRow_heap _ _ _ _ _ _ i8⟩)
        | j + 6, ho => simp at ho
      · intro f v hf hI
        obtain ⟨i0, i1, i2, i3, i4, i5, i6, i7, i8⟩ := hI
        have e0 : f 0 = .agg #[.int .i64 x.kind, .int .i64 x.sport, .int .i64 x.dport, .int .i64 x.seq, .int .i64 x.ack, .int .i64 x.bits, .int .i64 x.window, .int .i64 x.urgent, .int .i64 x.ty, .int .i64 x.code, .int .i64 x.rest, .bool x.nosum, .slice O os.length oc, .slice D0 ds.length d0] := hf (0, 53) (by decide) _ rfl
        have e1 : f 1 = .agg #[.int .i64 y1.k, .int .i64 y1.a, .int .i64 y1.b, .int .i64 y1.c, .int .i64 y1.d] := hf (1, 54) (by decide) _ rfl
        have e2 : f 2 = .agg #[.int .i64 y2.k, .int .i64 y2.a, .int .i64 y2.b, .int .i64 y2.c, .int .i64 y2.d] := hf (2, 55) (by decide) _ rfl
        have x0 := Lib.hid i6
        have x1 := Lib.hid i7
        have x2 := Lib.hid i8
        have oo := Lib.hid i4
        have od := Lib.hid i5
        have bz := Lib.hid i0
        clear i0 i1 i2 i3 i4 i5 i6 i7 i8 ru10 ra10 rb10 p710 p810 q10 C10 B10 O10 D10
        simp only [List.foldl_cons, List.foldl_nil, e0, e1, e2]
        clear e0 e1 e2 hf
        go_simp
        go_wp2
        (try simp only [Exit.inBlock, Exit.then])
        refine bodyPost_ret (v := .tuple #[.agg #[.int .i64 x.kind, .int .i64 x.sport, .int .i64 x.dport, .int .i64 x.seq, .int .i64 x.ack, .int .i64 x.bits, .int .i64 x.window, .int .i64 x.urgent, .int .i64 x.ty, .int .i64 x.code, .int .i64 x.rest, .bool x.nosum, .slice O os.length oc, .slice D0 ds.length d0], .agg #[.int .i64 y1.k, .int .i64 y1.a, .int .i64 y1.b, .int .i64 y1.c, .int .i64 y1.d], .agg #[.int .i64 y2.k, .int .i64 y2.a, .int .i64 y2.b, .int .i64 y2.c, .int .i64 y2.d]]) ?_ rfl ⟨x, os, ds, y1, y2, O, oc, D0, d0, hos, hds, rfl, own_base oo.out (by omega), own_base od.out (by omega), bz.out⟩
        exact res3 Try.results25 _ _ _ _ _ _ _ _ _ rfl rfl rfl (run_loadVar_row _ _ 36 36 _ (0, 0) _ x0.out Try.underlying36 rfl info_up) (run_loadVar_row _ _ 27 27 _ (0, 0) _ x1.out Try.underlying27 rfl info_addrP) (run_loadVar_row _ _ 27 27 _ (0, 0) _ x2.out Try.underlying27 rfl info_addrP)
    | true =>
      refine Calls.mono (HO2.out _ (w.heap.size + 1 + 1 + 1) A c C9.out) ?_
      rintro e w8 ⟨rfl, hc2, hg2⟩
      have ru10 := Lib.hid (K.kept hg2 ru9.out (fun k hk => by cases hk; omega))
      have ra10 := Lib.hid (K.kept hg2 ra9.out (fun k hk => by cases hk; omega))
      have rb10 := Lib.hid (K.kept hg2 rb9.out (fun k hk => by cases hk; omega))
      have p710 := Lib.hid (K.kept hg2 p79.out (fun k hk => by cases hk; omega))
      have p810 := Lib.hid (K.kept hg2 p89.out (fun k hk => by cases hk; omega))
      have q10 := Lib.hid (K.kept hg2 q9.out (fun k hk => by cases hk; omega))
      have C10 := Lib.hid hc2
      have B10 := Lib.hid (bgrown B9.out hg2 (fun k hk => by cases hk; omega))
      have O10 := Lib.hid (own_grown O9.out hg2 (fun k h1 h2 => by cases h2; have := (O9.out.lt _ h1).1; omega))
      have D10 := Lib.hid (own_grown D9.out hg2 (fun k h1 h2 => by cases h2; have := (D9.out.lt _ h1).1; omega))
      clear hc2 hg2 ru9 ra9 rb9 p79 p89 q9 C9 B9 O9 D9
      have d13 := K.cell q10.out 13 _ rfl
      by_cases hL : 1 < ds.length
      · skip
        have hL2 : (1 : Int) < (ds.length : Int) := by omega
        go_upto_region 8 with fail
        clear d13
        have DF := Lib.hid (own_front D10.out 0 (by omega))
        have AF := Lib.hid (show ∀ k, (Value.slice D0 0 d0).ownBlock = some k → w5.heap.size ≤ k ∧ k < w6.heap.size from fun k hk => LD.out k ((ownBlk D0 0 d0 ds.length).symm.trans hk))
        have HBK := Lib.hid (show ∀ k, (Value.slice D0 0 d0).ownBlock = some k → k < w8.heap.size from fun k hk => (DF.out.lt k hk).2)
        have lq8 := K.lt q10.out
        refine wp_region_grow (w := w8) ((Value.slice D0 0 d0).ownBlock) (by kernel_rfl) 6 56 [(0, 39), (1, 40), (2, 41), (3, 42), (4, 43), (5, 44)] _ ([.val (.pointer (some ⟨w6.heap.size, 13, none⟩)), .val (.slice D0 ds.length d0), .val (.slice D0 0 d0), .pr (OwnB w8.heap.size 2 (put16 0)) OwnB.on (OwnB.grown HBK.out), .any, .val (.pointer (some ⟨w6.heap.size, 13, none⟩))]) (by kernel_rfl) (by kernel_rfl) rfl 4 43 (by omega) (by decide) rfl (fun b' v => Below w.heap.size w v ∧ v.heap[w6.heap.size]? = some (.cells #[.int .i64 x.kind, .int .i64 x.sport, .int .i64 x.dport, .int .i64 x.seq, .int .i64 x.ack, .int .i64 x.bits, .int .i64 x.window, .int .i64 x.urgent, .int .i64 x.ty, .int .i64 x.code, .int .i64 x.rest, .bool x.nosum, .slice O os.length oc, .slice D0 ds.length d0] 36 (0, 0)) ∧ v.heap[w3.heap.size]? = some (.cells #[.int .i64 y1.k, .int .i64 y1.a, .int .i64 y1.b, .int .i64 y1.c, .int .i64 y1.d] 27 (0, 0)) ∧ v.heap[(w3.heap.size + 1)]? = some (.cells #[.int .i64 y2.k, .int .i64 y2.a, .int .i64 y2.b, .int .i64 y2.c, .int .i64 y2.d] 27 (0, 0)) ∧ v.heap[w.heap.size]? = some (.cells #[.int .i64 0, .int .i64 0, .int .i64 0, .int .i64 0, .int .i64 0, .int .i64 0, .int .i64 0, .int .i64 0, .int .i64 0, .int .i64 0, .int .i64 0, .bool false, .slice none 0 0, .slice none 0 0] 36 (0, 0)) ∧ v.heap[(w.heap.size + 1)]? = some (.cells #[.int .i64 0, .int .i64 0, .int .i64 0, .int .i64 0, .int .i64 0] 27 (0, 0)) ∧ v.heap[(w.heap.size + 1 + 1)]? = some (.cells #[.int .i64 0, .int .i64 0, .int .i64 0, .int .i64 0, .int .i64 0] 27 (0, 0)) ∧ w8.heap.size ≤ v.heap.size ∧ v.ownsRow w5.heap.size 5 1 (.slice O os.length oc) os.length (cellsOf os) ∧ (b' = false → v.ownsRow w5.heap.size 5 1 (.slice D0 0 d0) 0 (cellsOf []))) (fun b' v v' hb h => ⟨bthen h.1 hb, K.below hb h.2.1, K.below hb h.2.2.1, K.below hb h.2.2.2.1, K.below hb h.2.2.2.2.1, K.below hb h.2.2.2.2.2.1, K.below hb h.2.2.2.2.2.2.1, Nat.le_trans h.2.2.2.2.2.2.2.1 hb.size, own_below h.2.2.2.2.2.2.2.2.1 hb, fun e => own_below (h.2.2.2.2.2.2.2.2.2 e) hb⟩) ⟨⟨B10.out.os, B10.out.tape, B10.out.output, B10.out.size, B10.out.block⟩, q10.out, p710.out, p810.out, ru10.out, ra10.out, rb10.out, Nat.le_refl _, O10.out, fun _ => DF.out⟩ (OwnB w5.heap.size 2 (put16 0)) (fun v v' u hb h => OwnB.on v v' u hb h) ?_ ?_ ?_
        · intro j o hj hjp ho b' a' v K' hbt hx hnd hJJ hK
          match j, hj, hjp, ho with
          | 0, _, _, ho =>
            obtain rfl := Option.some.inj ho
            have h0 : a'.eval (.tmp 9) = .pointer (some ⟨w6.heap.size, 0, none⟩) := (hx 9 (by decide)).trans rfl
            exact u_fldU13 _ _ rfl h0 (hK _ _ rfl (Below.refl _ _))
          | 1, _, _, ho =>
            obtain rfl := Option.some.inj ho
            have h0 : a'.eval (.tmp 39) = .pointer (some ⟨w6.heap.size, 13, none⟩) := (grow_of hnd 0 39 (by kernel_rfl) (by decide) :)
            exact u_bytes _ _ _ _ rfl h0 (K.cell hJJ.2.1 13 _ rfl) (hK _ _ rfl (Below.refl _ _))
          | 2, _, _, ho =>
            obtain rfl := Option.some.inj ho
            have h0 : a'.eval (.tmp 40) = .slice D0 ds.length d0 := (grow_of hnd 1 40 (by kernel_rfl) (by decide) :)
            exact u_cutF _ _ _ rfl h0 (fun w => cut_front D0 ds.length d0 0 (by omega) w) (hK _ _ rfl (Below.refl _ _))
          | 3, _, _, ho =>
            obtain rfl := Option.some.inj ho
            refine u_p16S _ _ _ rfl rfl (Calls.mono (put16S 0 v) ?_)
            rintro e' v' ⟨E6, k6, rfl, o6, b6⟩
            exact ⟨_, rfl, hK _ _ ⟨E6, k6, rfl, own_base o6 hJJ.2.2.2.2.2.2.2.1⟩ b6⟩
          | 4, _, hjp, _ => exact absurd rfl hjp
          | 5, _, _, ho =>
            obtain rfl := Option.some.inj ho
            have h0 : a'.eval (.tmp 9) = .pointer (some ⟨w6.heap.size, 0, none⟩) := (hx 9 (by decide)).trans rfl
            exact u_fldU13 _ _ rfl h0 (hK _ _ rfl (Below.refl _ _))
          | j + 6, hj, _, _ => omega
        · intro o ho a' v K' hx hnd hJJ hK
          obtain rfl := Option.some.inj ho
          have h0 : a'.eval (.tmp 41) = .slice D0 0 d0 := (grow_of hnd 2 41 (by kernel_rfl) (by decide) :)
          obtain ⟨E6, k6, h1, o6⟩ := (grow_of hnd 3 42 (by kernel_rfl) (by decide) :)
          refine wp_append_f _ _ rfl w5.heap.size _ h0 (hJJ.2.2.2.2.2.2.2.2.2 rfl) v.heap.size E6 2 k6 (put16 0) h1 rfl (RB.of_own o6) (by decide) (by have := hJJ.2.2.2.2.2.2.2.1; omega) ?_
          intro E8 k8 v' o8 g8
          exact hK _ _ ⟨E8, k8, rfl, o8⟩ g8 ⟨bgrown hJJ.1 g8 (fun k hk => by have := AF.out k hk; have := l5; omega), K.kept g8 hJJ.2.1 (fun k hk => by have := AF.out k hk; omega), K.kept g8 hJJ.2.2.1 (fun k hk => by have := AF.out k hk; omega), K.kept g8 hJJ.2.2.2.1 (fun k hk => by have := AF.out k hk; omega), K.kept g8 hJJ.2.2.2.2.1 (fun k hk => by have := AF.out k hk; omega), K.kept g8 hJJ.2.2.2.2.2.1 (fun k hk => by have := AF.out k hk; omega), K.kept g8 hJJ.2.2.2.2.2.2.1 (fun k hk => by have := AF.out k hk; omega), Nat.le_trans hJJ.2.2.2.2.2.2.2.1 g8.size, own_grown hJJ.2.2.2.2.2.2.2.2.1 g8 (fun k h1 h2 => AP.out k h1 ((ownBlk D0 0 d0 ds.length).symm.trans h2)), fun e => by cases e⟩
        · intro f v hf OG hJJ
          have e0 : f 0 = (.pointer (some ⟨w6.heap.size, 13, none⟩)) := hf (0, 39) (by decide) (by decide)
          have e1 : f 1 = (.slice D0 ds.length d0) := hf (1, 40) (by decide) (by decide)
          have e2 : f 2 = (.slice D0 0 d0) := hf (2, 41) (by decide) (by decide)
          have e5 : f 5 = (.pointer (some ⟨w6.heap.size, 13, none⟩)) := hf (5, 44) (by decide) (by decide)
          simp only [List.foldl_cons, List.foldl_nil, List.drop_succ_cons, List.drop_zero, e0, e1, e2, e5]
          clear e0 e1 e2 e5 hf
          go_simp
          obtain ⟨E9, k9, e9, oE⟩ := OG
          rw [e9]
          clear e9
          obtain ⟨j0, j1, j2, j3, j4, j5, j6, j7, j8, _⟩ := hJJ
          have u13 := K.cell j1 13 _ rfl
          have y13 := frozen_of_row _ _ 13 _ _ j1
          have lE := oE.lt
          have lO := j8.lt
          have q90 : Hid ((v.setCell ⟨w6.heap.size, 13, none⟩ (.slice E9 2 k9)).heap[w6.heap.size]? = some (.cells #[.int .i64 x.kind, .int .i64 x.sport, .int .i64 x.dport, .int .i64 x.seq, .int .i64 x.ack, .int .i64 x.bits, .int .i64 x.window, .int .i64 x.urgent, .int .i64 x.ty, .int .i64 x.code, .int .i64 x.rest, .bool x.nosum, .slice O os.length oc, .slice E9 2 k9] 36 (0, 0))) := Lib.hid (K.set j1 13 _)
          have p790 := Lib.hid (K.other j2 w6.heap.size 13 (.slice E9 2 k9) (by omega))
          have p890 := Lib.hid (K.other j3 w6.heap.size 13 (.slice E9 2 k9) (by omega))
          have ru90 := Lib.hid (K.other j4 w6.heap.size 13 (.slice E9 2 k9) (by omega))
          have ra90 := Lib.hid (K.other j5 w6.heap.size 13 (.slice E9 2 k9) (by omega))
          have rb90 := Lib.hid (K.other j6 w6.heap.size 13 (.slice E9 2 k9) (by omega))
          have B90 : Hid (Below w.heap.size w (v.setCell ⟨w6.heap.size, 13, none⟩ (.slice E9 2 k9))) := Lib.hid (j0.setCell (p := ⟨w6.heap.size, 13, none⟩) (show w.heap.size ≤ w6.heap.size by omega) (.slice E9 2 k9))
          have O90 := Lib.hid (own_grown j8 (grownBy_set v w6.heap.size 13 (.slice E9 2 k9)) (fun k h1 h2 => by cases h2; exact own_neU j8 j1 _ h1 rfl))
          have D90 := Lib.hid (own_grown oE (grownBy_set v w6.heap.size 13 (.slice E9 2 k9)) (fun k h1 h2 => by cases h2; exact own_neU oE j1 _ h1 rfl))
          clear oE j0 j2 j3 j4 j5 j6 j7 j8
          go_upto_region 9 with fail
          clear u13 y13 j1
          generalize (v.setCell ⟨w6.heap.size, 13, none⟩ (.slice E9 2 k9)) = w9 at q90 p790 p890 ru90 ra90 rb90 B90 O90 D90 ⊢
          go_wp2_with (first | (with_reducible refine loadU rfl _ rfl w6.heap.size rfl q90.out ?_) | (with_reducible refine loadA rfl _ rfl w3.heap.size rfl p790.out ?_) | (with_reducible refine loadA rfl _ rfl (w3.heap.size + 1) rfl p890.out ?_))
          refine Calls.mono (usS x y1 y2 O E9 os.length oc 2 k9 os (put16 0) _ (RB.of_own O90.out) rfl (RB.of_own D90.out) rfl (by omega) (by omega)) ?_
          rintro e w10 ⟨rfl, b10⟩
          generalize Uh.sum x os (put16 0) y1 y2 = S
          have ru91 := Lib.hid (K.below b10 ru90.out)
          have ra91 := Lib.hid (K.below b10 ra90.out)
          have rb91 := Lib.hid (K.below b10 rb90.out)
          have p791 := Lib.hid (K.below b10 p790.out)
          have p891 := Lib.hid (K.below b10 p890.out)
          have q91 := Lib.hid (K.below b10 q90.out)
          have B91 := Lib.hid (bthen B90.out b10)
          have O91 := Lib.hid (own_below O90.out b10)
          have D91 := Lib.hid (own_below D90.out b10)
          clear b10 ru90 ra90 rb90 p790 p890 q90 B90 O90 D90
          obtain ⟨M, hM⟩ : ∃ M : Int, (if (0 : Int) < S then S else 0) = M := ⟨_, rfl⟩
          go_wp2_with fail
          refine Calls.mono (put16S _ _) ?_
          rintro e w11 ⟨E7, k7, rfl, o7, b11⟩
          have OE := Lib.hid (own_base o7 (show w5.heap.size ≤ _ by have := K.lt q91.out; omega))
          have NE := Lib.hid (fun k hk => (o7.lt k hk).1)
          have lq10 := K.lt q91.out
          clear o7
          clear D91
          have ru92 := Lib.hid (K.below b11 ru91.out)
          have ra92 := Lib.hid (K.below b11 ra91.out)
          have rb92 := Lib.hid (K.below b11 rb91.out)
          have p792 := Lib.hid (K.below b11 p791.out)
          have p892 := Lib.hid (K.below b11 p891.out)
          have q92 := Lib.hid (K.below b11 q91.out)
          have B92 := Lib.hid (bthen B91.out b11)
          have O92 := Lib.hid (own_below O91.out b11)
          clear b11 ru91 ra91 rb91 p791 p891 q91 B91 O91
          have u13 := K.cell q92.out 13 _ rfl
          have y13 := frozen_of_row _ _ 13 _ _ q92.out
          have q93 : Hid ((w11.setCell ⟨w6.heap.size, 13, none⟩ (.slice E7 2 k7)).heap[w6.heap.size]? = some (.cells #[.int .i64 x.kind, .int .i64 x.sport, .int .i64 x.dport, .int .i64 x.seq, .int .i64 x.ack, .int .i64 x.bits, .int .i64 x.window, .int .i64 x.urgent, .int .i64 x.ty, .int .i64 x.code, .int .i64 x.rest, .bool x.nosum, .slice O os.length oc, .slice E7 2 k7] 36 (0, 0))) := Lib.hid (K.set q92.out 13 _)
          have p793 := Lib.hid (K.other p792.out w6.heap.size 13 (.slice E7 2 k7) (by omega))
          have p893 := Lib.hid (K.other p892.out w6.heap.size 13 (.slice E7 2 k7) (by omega))
          have ru93 := Lib.hid (K.other ru92.out w6.heap.size 13 (.slice E7 2 k7) (by omega))
          have ra93 := Lib.hid (K.other ra92.out w6.heap.size 13 (.slice E7 2 k7) (by omega))
          have rb93 := Lib.hid (K.other rb92.out w6.heap.size 13 (.slice E7 2 k7) (by omega))
          have B93 : Hid (Below w.heap.size w (w11.setCell ⟨w6.heap.size, 13, none⟩ (.slice E7 2 k7))) := Lib.hid (B92.out.setCell (p := ⟨w6.heap.size, 13, none⟩) (show w.heap.size ≤ w6.heap.size by omega) (.slice E7 2 k7))
          have O93 := Lib.hid (own_grown O92.out (grownBy_set w11 w6.heap.size 13 (.slice E7 2 k7)) (fun k h1 h2 => by cases h2; exact own_neU O92.out q92.out _ h1 rfl))
          have D93 := Lib.hid (own_grown OE.out (grownBy_set w11 w6.heap.size 13 (.slice E7 2 k7)) (fun k h1 h2 => by cases h2; have := NE.out _ h1; omega))
          go_upto_region 11 with fail
          clear u13 y13 OE ru92 ra92 rb92 p792 p892 q92 B92 O92
          generalize (w11.setCell ⟨w6.heap.size, 13, none⟩ (.slice E7 2 k7)) = w12 at ru93 ra93 rb93 p793 p893 q93 B93 O93 D93 ⊢
          go_upto_region 11 with fail
          refine wp_region_links (by kernel_rfl) [2, 3, 4, 7, 8, 9] [3, 4, 5] 56 [(0, 53), (1, 54), (2, 55)] [some (.agg #[.int .i64 x.kind, .int .i64 x.sport, .int .i64 x.dport, .int .i64 x.seq, .int .i64 x.ack, .int .i64 x.bits, .int .i64 x.window, .int .i64 x.urgent, .int .i64 x.ty, .int .i64 x.code, .int .i64 x.rest, .bool x.nosum, .slice O os.length oc, .slice E7 2 k7]), some (.agg #[.int .i64 y1.k, .int .i64 y1.a, .int .i64 y1.b, .int .i64 y1.c, .int .i64 y1.d]), some (.agg #[.int .i64 y2.k, .int .i64 y2.a, .int .i64 y2.b, .int .i64 y2.c, .int .i64 y2.d])] (fun m v => Below w.heap.size w v ∧ v.heap[w6.heap.size]? = some (.cells #[.int .i64 x.kind, .int .i64 x.sport, .int .i64 x.dport, .int .i64 x.seq, .int .i64 x.ack, .int .i64 x.bits, .int .i64 x.window, .int .i64 x.urgent, .int .i64 x.ty, .int .i64 x.code, .int .i64 x.rest, .bool x.nosum, .slice O os.length oc, .slice E7 2 k7] 36 (0, 0)) ∧ v.heap[w3.heap.size]? = some (.cells #[.int .i64 y1.k, .int .i64 y1.a, .int .i64 y1.b, .int .i64 y1.c, .int .i64 y1.d] 27 (0, 0)) ∧ v.heap[w3.heap.size + 1]? = some (.cells #[.int .i64 y2.k, .int .i64 y2.a, .int .i64 y2.b, .int .i64 y2.c, .int .i64 y2.d] 27 (0, 0)) ∧ v.ownsRow (w.heap.size + 1 + 1 + 1) 5 1 (.slice O os.length oc) os.length (cellsOf os) ∧ v.ownsRow (w.heap.size + 1 + 1 + 1) 5 1 (.slice E7 ((put16 M)).length k7) ((put16 M)).length (cellsOf ((put16 M))) ∧ v.heap[w.heap.size]? = some (if m = 0 then .cells #[.int .i64 0, .int .i64 0, .int .i64 0, .int .i64 0, .int .i64 0, .int .i64 0, .int .i64 0, .int .i64 0, .int .i64 0, .int .i64 0, .int .i64 0, .bool false, .slice none 0 0, .slice none 0 0] 36 (0, 0) else .cells #[.int .i64 x.kind, .int .i64 x.sport, .int .i64 x.dport, .int .i64 x.seq, .int .i64 x.ack, .int .i64 x.bits, .int .i64 x.window, .int .i64 x.urgent, .int .i64 x.ty, .int .i64 x.code, .int .i64 x.rest, .bool x.nosum, .slice O os.length oc, .slice E7 2 k7] 36 (0, 0)) ∧ v.heap[w.heap.size + 1]? = some (if m ≤ 1 then .cells #[.int .i64 0, .int .i64 0, .int .i64 0, .int .i64 0, .int .i64 0] 27 (0, 0) else .cells #[.int .i64 y1.k, .int .i64 y1.a, .int .i64 y1.b, .int .i64 y1.c, .int .i64 y1.d] 27 (0, 0)) ∧ v.heap[w.heap.size + 1 + 1]? = some (if m ≤ 2 then .cells #[.int .i64 0, .int .i64 0, .int .i64 0, .int .i64 0, .int .i64 0] 27 (0, 0) else .cells #[.int .i64 y2.k, .int .i64 y2.a, .int .i64 y2.b, .int .i64 y2.c, .int .i64 y2.d] 27 (0, 0))) (by kernel_rfl) (by kernel_rfl) (by kernel_rfl) rfl ⟨⟨B93.out.os, B93.out.tape, B93.out.output, B93.out.size, B93.out.block⟩, q93.out, p793.out, p893.out, own_base O93.out (by omega), own_base D93.out (by omega), ru93.out, ra93.out, rb93.out⟩ ?_ ?_
          · intro j o ho m a' v K' hx hnd hm hI hK
            obtain ⟨i0, i1, i2, i3, i4, i5, i6, i7, i8⟩ := hI
            match j, ho with
            | 0, ho =>
              obtain rfl := Option.some.inj ho
              have h0 : a'.eval (.tmp 9) = .pointer (some ⟨w6.heap.size, 0, none⟩) := (hx 9 (by decide)).trans rfl
              exact wp_load_row 36 _ rfl w6.heap.size h0 _ _ (0, 0) _ i1 Try.underlying36 rfl info_up (hK _ _ (fun x hx => Option.some.inj hx) ⟨i0, i1, i2, i3, i4, i5, i6, i7, i8⟩)
            | 1, ho =>
              obtain rfl := Option.some.inj ho
              have h0 : a'.eval (.tmp 7) = .pointer (some ⟨w3.heap.size, 0, none⟩) := (hx 7 (by decide)).trans rfl
              exact wp_load_row 27 _ rfl w3.heap.size h0 _ _ (0, 0) _ i2 Try.underlying27 rfl info_addrP (hK _ _ (fun x hx => Option.some.inj hx) ⟨i0, i1, i2, i3, i4, i5, i6, i7, i8⟩)
            | 2, ho =>
              obtain rfl := Option.some.inj ho
              have h0 : a'.eval (.tmp 8) = .pointer (some ⟨(w3.heap.size + 1), 0, none⟩) := (hx 8 (by decide)).trans rfl
              exact wp_load_row 27 _ rfl (w3.heap.size + 1) h0 _ _ (0, 0) _ i3 Try.underlying27 rfl info_addrP (hK _ _ (fun x hx => Option.some.inj hx) ⟨i0, i1, i2, i3, i4, i5, i6, i7, i8⟩)
            | 3, ho =>
              obtain rfl := Option.some.inj ho
              obtain rfl : 0 = m := hm 0 rfl
              have h0 : a'.eval (.tmp 2) = .pointer (some ⟨w.heap.size, 0, none⟩) := (hx 2 (by decide)).trans rfl
              have h1 : a'.eval (.tmp 53) = .agg #[.int .i64 x.kind, .int .i64 x.sport, .int .i64 x.dport, .int .i64 x.seq, .int .i64 x.ack, .int .i64 x.bits, .int .i64 x.window, .int .i64 x.urgent, .int .i64 x.ty, .int .i64 x.code, .int .i64 x.rest, .bool x.nosum, .slice O os.length oc, .slice E7 2 k7] := links_of hnd 0 53 _ (by kernel_rfl) rfl
              exact wp_store_row 36 _ _ rfl w.heap.size _ h0 h1 _ _ i6 info_up rfl (by simp [Value.oneCell']) (hK _ _ (fun x hx => by cases hx) ⟨K.setRow_below i0 (by omega) _, (setRow_other _ _ _ _ (by omega)).trans i1, (setRow_other _ _ _ _ (by omega)).trans i2, (setRow_other _ _ _ _ (by omega)).trans i3, K.setRow_own _ i4 (by omega), K.setRow_own _ i5 (by omega), setRow_heap _ _ _ _ _ _ i6, (setRow_other _ _ _ _ (by omega)).trans i7, (setRow_other _ _ _ _ (by omega)).trans i8⟩)
            | 4, ho =>
              obtain rfl := Option.some.inj ho
              obtain rfl : 1 = m := hm 1 rfl
              have h0 : a'.eval (.tmp 3) = .pointer (some ⟨(w.heap.size + 1), 0, none⟩) := (hx 3 (by decide)).trans rfl
              have h1 : a'.eval (.tmp 54) = .agg #[.int .i64 y1.k, .int .i64 y1.a, .int .i64 y1.b, .int .i64 y1.c, .int .i64 y1.d] := links_of hnd 1 54 _ (by kernel_rfl) rfl
              exact wp_store_row 27 _ _ rfl (w.heap.size + 1) _ h0 h1 _ _ i7 info_addrP rfl (by simp [Value.oneCell']) (hK _ _ (fun x hx => by cases hx) ⟨K.setRow_below i0 (by omega) _, (setRow_other _ _ _ _ (by omega)).trans i1, (setRow_other _ _ _ _ (by omega)).trans i2, (setRow_other _ _ _ _ (by omega)).trans i3, K.setRow_own _ i4 (by omega), K.setRow_own _ i5 (by omega), (setRow_other _ _ _ _ (by omega)).trans i6, setRow_heap _ _ _ _ _ _ i7, (setRow_other _ _ _ _ (by omega)).trans i8⟩)
            | 5, ho =>
              obtain rfl := Option.some.inj ho
              obtain rfl : 2 = m := hm 2 rfl
              have h0 : a'.eval (.tmp 4) = .pointer (some ⟨(w.heap.size + 1 + 1), 0, none⟩) := (hx 4 (by decide)).trans rfl
              have h1 : a'.eval (.tmp 55) = .agg #[.int .i64 y2.k, .int .i64 y2.a, .int .i64 y2.b, .int .i64 y2.c, .int .i64 y2.d] := links_of hnd 2 55 _ (by kernel_rfl) rfl
              exact wp_store_row 27 _ _ rfl (w.heap.size + 1 + 1) _ h0 h1 _ _ i8 info_addrP rfl (by simp [Value.oneCell']) (hK _ _ (fun x hx => by cases hx) ⟨K.setRow_below i0 (by omega) _, (setRow_other _ _ _ _ (by omega)).trans i1, (setRow_other _ _ _ _ (by omega)).trans i2, (setRow_other _ _ _ _ (by omega)).trans i3, K.setRow_own _ i4 (by omega), K.setRow_own _ i5 (by omega), (setRow_other _ _ _ _ (by omega)).trans i6, (setRow_other _ _ _ _ (by omega)).trans i7, setRow_heap _ _ _ _ _ _ i8⟩)
            | j + 6, ho => simp at ho
          · intro f v hf hI
            obtain ⟨i0, i1, i2, i3, i4, i5, i6, i7, i8⟩ := hI
            have e0 : f 0 = .agg #[.int .i64 x.kind, .int .i64 x.sport, .int .i64 x.dport, .int .i64 x.seq, .int .i64 x.ack, .int .i64 x.bits, .int .i64 x.window, .int .i64 x.urgent, .int .i64 x.ty, .int .i64 x.code, .int .i64 x.rest, .bool x.nosum, .slice O os.length oc, .slice E7 2 k7] := hf (0, 53) (by decide) _ rfl
            have e1 : f 1 = .agg #[.int .i64 y1.k, .int .i64 y1.a, .int .i64 y1.b, .int .i64 y1.c, .int .i64 y1.d] := hf (1, 54) (by decide) _ rfl
            have e2 : f 2 = .agg #[.int .i64 y2.k, .int .i64 y2.a, .int .i64 y2.b, .int .i64 y2.c, .int .i64 y2.d] := hf (2, 55) (by decide) _ rfl
            have x0 := Lib.hid i6
            have x1 := Lib.hid i7
            have x2 := Lib.hid i8
            have oo := Lib.hid i4
            have od := Lib.hid i5
            have bz := Lib.hid i0
            clear i0 i1 i2 i3 i4 i5 i6 i7 i8 ru93 ra93 rb93 p793 p893 q93 B93 O93 D93
            simp only [List.foldl_cons, List.foldl_nil, e0, e1, e2]
            clear e0 e1 e2 hf
            go_simp
            go_wp2
            (try simp only [Exit.inBlock, Exit.then])
            refine bodyPost_ret (v := .tuple #[.agg #[.int .i64 x.kind, .int .i64 x.sport, .int .i64 x.dport, .int .i64 x.seq, .int .i64 x.ack, .int .i64 x.bits, .int .i64 x.window, .int .i64 x.urgent, .int .i64 x.ty, .int .i64 x.code, .int .i64 x.rest, .bool x.nosum, .slice O os.length oc, .slice E7 2 k7], .agg #[.int .i64 y1.k, .int .i64 y1.a, .int .i64 y1.b, .int .i64 y1.c, .int .i64 y1.d], .agg #[.int .i64 y2.k, .int .i64 y2.a, .int .i64 y2.b, .int .i64 y2.c, .int .i64 y2.d]]) ?_ rfl ⟨x, os, (put16 M), y1, y2, O, oc, E7, k7, hos, (by simp [put16]), rfl, own_base oo.out (by omega), own_base od.out (by omega), bz.out⟩
            exact res3 Try.results25 _ _ _ _ _ _ _ _ _ rfl rfl rfl (run_loadVar_row _ _ 36 36 _ (0, 0) _ x0.out Try.underlying36 rfl info_up) (run_loadVar_row _ _ 27 27 _ (0, 0) _ x1.out Try.underlying27 rfl info_addrP) (run_loadVar_row _ _ 27 27 _ (0, 0) _ x2.out Try.underlying27 rfl info_addrP)
      · skip
        have hL2 : (ds.length : Int) ≤ 1 := by omega
        go_upto_region 11 with fail
        clear d13
        go_upto_region 11 with fail
        refine wp_region_links (by kernel_rfl) [2, 3, 4, 7, 8, 9] [3, 4, 5] 56 [(0, 53), (1, 54), (2, 55)] [some (.agg #[.int .i64 x.kind, .int .i64 x.sport, .int .i64 x.dport, .int .i64 x.seq, .int .i64 x.ack, .int .i64 x.bits, .int .i64 x.window, .int .i64 x.urgent, .int .i64 x.ty, .int .i64 x.code, .int .i64 x.rest, .bool x.nosum, .slice O os.length oc, .slice D0 ds.length d0]), some (.agg #[.int .i64 y1.k, .int .i64 y1.a, .int .i64 y1.b, .int .i64 y1.c, .int .i64 y1.d]), some (.agg #[.int .i64 y2.k, .int .i64 y2.a, .int .i64 y2.b, .int .i64 y2.c, .int .i64 y2.d])] (fun m v => Below w.heap.size w v ∧ v.heap[w6.heap.size]? = some (.cells #[.int .i64 x.kind, .int .i64 x.sport, .int .i64 x.dport, .int .i64 x.seq, .int .i64 x.ack, .int .i64 x.bits, .int .i64 x.window, .int .i64 x.urgent, .int .i64 x.ty, .int .i64 x.code, .int .i64 x.rest, .bool x.nosum, .slice O os.length oc, .slice D0 ds.length d0] 36 (0, 0)) ∧ v.heap[w3.heap.size]? = some (.cells #[.int .i64 y1.k, .int .i64 y1.a, .int .i64 y1.b, .int .i64 y1.c, .int .i64 y1.d] 27 (0, 0)) ∧ v.heap[w3.heap.size + 1]? = some (.cells #[.int .i64 y2.k, .int .i64 y2.a, .int .i64 y2.b, .int .i64 y2.c, .int .i64 y2.d] 27 (0, 0)) ∧ v.ownsRow (w.heap.size + 1 + 1 + 1) 5 1 (.slice O os.length oc) os.length (cellsOf os) ∧ v.ownsRow (w.heap.size + 1 + 1 + 1) 5 1 (.slice D0 (ds).length d0) (ds).length (cellsOf (ds)) ∧ v.heap[w.heap.size]? = some (if m = 0 then .cells #[.int .i64 0, .int .i64 0, .int .i64 0, .int .i64 0, .int .i64 0, .int .i64 0, .int .i64 0, .int .i64 0, .int .i64 0, .int .i64 0, .int .i64 0, .bool false, .slice none 0 0, .slice none 0 0] 36 (0, 0) else .cells #[.int .i64 x.kind, .int .i64 x.sport, .int .i64 x.dport, .int .i64 x.seq, .int .i64 x.ack, .int .i64 x.bits, .int .i64 x.window, .int .i64 x.urgent, .int .i64 x.ty, .int .i64 x.code, .int .i64 x.rest, .bool x.nosum, .slice O os.length oc, .slice D0 ds.length d0] 36 (0, 0)) ∧ v.heap[w.heap.size + 1]? = some (if m ≤ 1 then .cells #[.int .i64 0, .int .i64 0, .int .i64 0, .int .i64 0, .int .i64 0] 27 (0, 0) else .cells #[.int .i64 y1.k, .int .i64 y1.a, .int .i64 y1.b, .int .i64 y1.c, .int .i64 y1.d] 27 (0, 0)) ∧ v.heap[w.heap.size + 1 + 1]? = some (if m ≤ 2 then .cells #[.int .i64 0, .int .i64 0, .int .i64 0, .int .i64 0, .int .i64 0] 27 (0, 0) else .cells #[.int .i64 y2.k, .int .i64 y2.a, .int .i64 y2.b, .int .i64 y2.c, .int .i64 y2.d] 27 (0, 0))) (by kernel_rfl) (by kernel_rfl) (by kernel_rfl) rfl ⟨⟨B10.out.os, B10.out.tape, B10.out.output, B10.out.size, B10.out.block⟩, q10.out, p710.out, p810.out, own_base O10.out (by omega), own_base D10.out (by omega), ru10.out, ra10.out, rb10.out⟩ ?_ ?_
        · intro j o ho m a' v K' hx hnd hm hI hK
          obtain ⟨i0, i1, i2, i3, i4, i5, i6, i7, i8⟩ := hI
          match j, ho with
          | 0, ho =>
            obtain rfl := Option.some.inj ho
            have h0 : a'.eval (.tmp 9) = .pointer (some ⟨w6.heap.size, 0, none⟩) := (hx 9 (by decide)).trans rfl
            exact wp_load_row 36 _ rfl w6.heap.size h0 _ _ (0, 0) _ i1 Try.underlying36 rfl info_up (hK _ _ (fun x hx => Option.some.inj hx) ⟨i0, i1, i2, i3, i4, i5, i6, i7, i8⟩)
          | 1, ho =>
            obtain rfl := Option.some.inj ho
            have h0 : a'.eval (.tmp 7) = .pointer (some ⟨w3.heap.size, 0, none⟩) := (hx 7 (by decide)).trans rfl
            exact wp_load_row 27 _ rfl w3.heap.size h0 _ _ (0, 0) _ i2 Try.underlying27 rfl info_addrP (hK _ _ (fun x hx => Option.some.inj hx) ⟨i0, i1, i2, i3, i4, i5, i6, i7, i8⟩)
          | 2, ho =>
            obtain rfl := Option.some.inj ho
            have h0 : a'.eval (.tmp 8) = .pointer (some ⟨(w3.heap.size + 1), 0, none⟩) := (hx 8 (by decide)).trans rfl
            exact wp_load_row 27 _ rfl (w3.heap.size + 1) h0 _ _ (0, 0) _ i3 Try.underlying27 rfl info_addrP (hK _ _ (fun x hx => Option.some.inj hx) ⟨i0, i1, i2, i3, i4, i5, i6, i7, i8⟩)
          | 3, ho =>
            obtain rfl := Option.some.inj ho
            obtain rfl : 0 = m := hm 0 rfl
            have h0 : a'.eval (.tmp 2) = .pointer (some ⟨w.heap.size, 0, none⟩) := (hx 2 (by decide)).trans rfl
            have h1 : a'.eval (.tmp 53) = .agg #[.int .i64 x.kind, .int .i64 x.sport, .int .i64 x.dport, .int .i64 x.seq, .int .i64 x.ack, .int .i64 x.bits, .int .i64 x.window, .int .i64 x.urgent, .int .i64 x.ty, .int .i64 x.code, .int .i64 x.rest, .bool x.nosum, .slice O os.length oc, .slice D0 ds.length d0] := links_of hnd 0 53 _ (by kernel_rfl) rfl
            exact wp_store_row 36 _ _ rfl w.heap.size _ h0 h1 _ _ i6 info_up rfl (by simp [Value.oneCell']) (hK _ _ (fun x hx => by cases hx) ⟨K.setRow_below i0 (by omega) _, (setRow_other _ _ _ _ (by omega)).trans i1, (setRow_other _ _ _ _ (by omega)).trans i2, (setRow_other _ _ _ _ (by omega)).trans i3, K.setRow_own _ i4 (by omega), K.setRow_own _ i5 (by omega), setRow_heap _ _ _ _ _ _ i6, (setRow_other _ _ _ _ (by omega)).trans i7, (setRow_other _ _ _ _ (by omega)).trans i8⟩)
          | 4, ho =>
            obtain rfl := Option.some.inj ho
            obtain rfl : 1 = m := hm 1 rfl
            have h0 : a'.eval (.tmp 3) = .pointer (some ⟨(w.heap.size + 1), 0, none⟩) := (hx 3 (by decide)).trans rfl
            have h1 : a'.eval (.tmp 54) = .agg #[.int .i64 y1.k, .int .i64 y1.a, .int .i64 y1.b, .int .i64 y1.c, .int .i64 y1.d] := links_of hnd 1 54 _ (by kernel_rfl) rfl
            exact wp_store_row 27 _ _ rfl (w.heap.size + 1) _ h0 h1 _ _ i7 info_addrP rfl (by simp [Value.oneCell']) (hK _ _ (fun x hx => by cases hx) ⟨K.setRow_below i0 (by omega) _, (setRow_other _ _ _ _ (by omega)).trans i1, (setRow_other _ _ _ _ (by omega)).trans i2, (setRow_other _ _ _ _ (by omega)).trans i3, K.setRow_own _ i4 (by omega), K.setRow_own _ i5 (by omega), (setRow_other _ _ _ _ (by omega)).trans i6, setRow_heap _ _ _ _ _ _ i7, (setRow_other _ _ _ _ (by omega)).trans i8⟩)
          | 5, ho =>
            obtain rfl := Option.some.inj ho
            obtain rfl : 2 = m := hm 2 rfl
            have h0 : a'.eval (.tmp 4) = .pointer (some ⟨(w.heap.size + 1 + 1), 0, none⟩) := (hx 4 (by decide)).trans rfl
            have h1 : a'.eval (.tmp 55) = .agg #[.int .i64 y2.k, .int .i64 y2.a, .int .i64 y2.b, .int .i64 y2.c, .int .i64 y2.d] := links_of hnd 2 55 _ (by kernel_rfl) rfl
            exact wp_store_row 27 _ _ rfl (w.heap.size + 1 + 1) _ h0 h1 _ _ i8 info_addrP rfl (by simp [Value.oneCell']) (hK _ _ (fun x hx => by cases hx) ⟨K.setRow_below i0 (by omega) _, (setRow_other _ _ _ _ (by omega)).trans i1, (setRow_other _ _ _ _ (by omega)).trans i2, (setRow_other _ _ _ _ (by omega)).trans i3, K.setRow_own _ i4 (by omega), K.setRow_own _ i5 (by omega), (setRow_other _ _ _ _ (by omega)).trans i6, (setRow_other _ _ _ _ (by omega)).trans i7, setRow_heap _ _ _ _ _ _ i8⟩)
          | j + 6, ho => simp at ho
        · intro f v hf hI
          obtain ⟨i0, i1, i2, i3, i4, i5, i6, i7, i8⟩ := hI
          have e0 : f 0 = .agg #[.int .i64 x.kind, .int .i64 x.sport, .int .i64 x.dport, .int .i64 x.seq, .int .i64 x.ack, .int .i64 x.bits, .int .i64 x.window, .int .i64 x.urgent, .int .i64 x.ty, .int .i64 x.code, .int .i64 x.rest, .bool x.nosum, .slice O os.length oc, .slice D0 ds.length d0] := hf (0, 53) (by decide) _ rfl
          have e1 : f 1 = .agg #[.int .i64 y1.k, .int .i64 y1.a, .int .i64 y1.b, .int .i64 y1.c, .int .i64 y1.d] := hf (1, 54) (by decide) _ rfl
          have e2 : f 2 = .agg #[.int .i64 y2.k, .int .i64 y2.a, .int .i64 y2.b, .int .i64 y2.c, .int .i64 y2.d] := hf (2, 55) (by decide) _ rfl
          have x0 := Lib.hid i6
          have x1 := Lib.hid i7
          have x2 := Lib.hid i8
          have oo := Lib.hid i4
          have od := Lib.hid i5
          have bz := Lib.hid i0
          clear i0 i1 i2 i3 i4 i5 i6 i7 i8 ru10 ra10 rb10 p710 p810 q10 C10 B10 O10 D10
          simp only [List.foldl_cons, List.foldl_nil, e0, e1, e2]
          clear e0 e1 e2 hf
          go_simp
          go_wp2
          (try simp only [Exit.inBlock, Exit.then])
          refine bodyPost_ret (v := .tuple #[.agg #[.int .i64 x.kind, .int .i64 x.sport, .int .i64 x.dport, .int .i64 x.seq, .int .i64 x.ack, .int .i64 x.bits, .int .i64 x.window, .int .i64 x.urgent, .int .i64 x.ty, .int .i64 x.code, .int .i64 x.rest, .bool x.nosum, .slice O os.length oc, .slice D0 ds.length d0], .agg #[.int .i64 y1.k, .int .i64 y1.a, .int .i64 y1.b, .int .i64 y1.c, .int .i64 y1.d], .agg #[.int .i64 y2.k, .int .i64 y2.a, .int .i64 y2.b, .int .i64 y2.c, .int .i64 y2.d]]) ?_ rfl ⟨x, os, ds, y1, y2, O, oc, D0, d0, hos, hds, rfl, own_base oo.out (by omega), own_base od.out (by omega), bz.out⟩
          exact res3 Try.results25 _ _ _ _ _ _ _ _ _ rfl rfl rfl (run_loadVar_row _ _ 36 36 _ (0, 0) _ x0.out Try.underlying36 rfl info_up) (run_loadVar_row _ _ 27 27 _ (0, 0) _ x1.out Try.underlying27 rfl info_addrP) (run_loadVar_row _ _ 27 27 _ (0, 0) _ x2.out Try.underlying27 rfl info_addrP)
  | true =>
    refine Calls.mono (H4.out _ (w.heap.size + 1 + 1 + 1) A c C5.out) ?_
    rintro e w20 ⟨rfl, hc2, hg2⟩
    have ru6 := Lib.hid (K.kept hg2 ru5.out (fun k hk => by cases hk; omega))
    have ra6 := Lib.hid (K.kept hg2 ra5.out (fun k hk => by cases hk; omega))
    have rb6 := Lib.hid (K.kept hg2 rb5.out (fun k hk => by cases hk; omega))
    have p76 := Lib.hid (K.kept hg2 p75.out (fun k hk => by cases hk; omega))
    have p86 := Lib.hid (K.kept hg2 p85.out (fun k hk => by cases hk; omega))
    have C6 := Lib.hid hc2
    have B6 := Lib.hid (bgrown B5.out hg2 (fun k hk => by cases hk; omega))
    clear hc2 hg2 ru5 ra5 rb5 p75 p85 C5 B5
    obtain ⟨z, t5, s5, ht5, hdz⟩ := badAddrE bs (t3 + 1) s4 (by omega)
    have HZ := Lib.hid hdz
    clear hdz
    go_wp2_with fail
    refine Calls.mono (HZ.out _ (w.heap.size + 1 + 1 + 1) A c C6.out) ?_
    rintro e w21 ⟨rfl, hc2, hg2⟩
    have ru7 := Lib.hid (K.kept hg2 ru6.out (fun k hk => by cases hk; omega))
    have ra7 := Lib.hid (K.kept hg2 ra6.out (fun k hk => by cases hk; omega))
    have rb7 := Lib.hid (K.kept hg2 rb6.out (fun k hk => by cases hk; omega))
    have p77 := Lib.hid (K.kept hg2 p76.out (fun k hk => by cases hk; omega))
    have p87 := Lib.hid (K.kept hg2 p86.out (fun k hk => by cases hk; omega))
    have C7 := Lib.hid hc2
    have B7 := Lib.hid (bgrown B6.out hg2 (fun k hk => by cases hk; omega))
    clear hc2 hg2 ru6 ra6 rb6 p76 p86 C6 B6
    have ru8 := Lib.hid ((setRow_other w21 w3.heap.size w.heap.size #[.int .i64 z.k, .int .i64 z.a, .int .i64 z.b, .int .i64 z.c, .int .i64 z.d] (by omega)).trans ru7.out)
    have ra8 := Lib.hid ((setRow_other w21 w3.heap.size (w.heap.size + 1) #[.int .i64 z.k, .int .i64 z.a, .int .i64 z.b, .int .i64 z.c, .int .i64 z.d] (by omega)).trans ra7.out)
    have rb8 := Lib.hid ((setRow_other w21 w3.heap.size (w.heap.size + 1 + 1) #[.int .i64 z.k, .int .i64 z.a, .int .i64 z.b, .int .i64 z.c, .int .i64 z.d] (by omega)).trans rb7.out)
    have p78 : Hid ((w21.setRow w3.heap.size #[.int .i64 z.k, .int .i64 z.a, .int .i64 z.b, .int .i64 z.c, .int .i64 z.d]).heap[w3.heap.size]? = some (.cells #[.int .i64 z.k, .int .i64 z.a, .int .i64 z.b, .int .i64 z.c, .int .i64 z.d] 27 (0, 0))) := Lib.hid (setRow_heap _ _ _ _ _ _ p77.out)
    have p88 := Lib.hid ((setRow_other w21 w3.heap.size (w3.heap.size + 1) #[.int .i64 z.k, .int .i64 z.a, .int .i64 z.b, .int .i64 z.c, .int .i64 z.d] (by omega)).trans p87.out)
    have C8 := Lib.hid (C7.out.grownBy (K.setRow_grown w21 w3.heap.size #[.int .i64 z.k, .int .i64 z.a, .int .i64 z.b, .int .i64 z.c, .int .i64 z.d]) (fun u hu => by cases hu; omega))
    have B8 := Lib.hid (K.setRow_below B7.out (show w.heap.size ≤ w3.heap.size by omega) #[.int .i64 z.k, .int .i64 z.a, .int .i64 z.b, .int .i64 z.c, .int .i64 z.d])
    go_upto_region 6 with (with_reducible refine storeAd rfl _ _ rfl w3.heap.size rfl rfl p77.out ?_)
    clear ru7 ra7 rb7 p77 p87 C7 B7
    generalize (w21.setRow w3.heap.size #[.int .i64 z.k, .int .i64 z.a, .int .i64 z.b, .int .i64 z.c, .int .i64 z.d]) = w22 at ru8 ra8 rb8 p78 p88 C8 B8 ⊢
    obtain ⟨v1, sv, lov, upv, hdv⟩ := pickE bs (t5) s5 3 (by omega) (by omega) (by omega)
    have HV := Lib.hid hdv
    clear hdv
    have mv : IntKind.i64.wrap (1 + v1) = 1 + v1 := by rw [IntKind.wrap_i64]; omega
    obtain ⟨x, os, ds, t6, s6, hos, hds, ht6, hdu⟩ := badUpE (1 + v1) k (by omega) hkk bs (t5 + 1) sv (by omega) hbl
    have HU := Lib.hid hdu
    clear hdu
    go_wp2_with fail
    refine Calls.mono (HV.out _ (w.heap.size + 1 + 1 + 1) A c C8.out) ?_
    rintro e w5 ⟨rfl, hc2, hg2⟩
    have ru9 := Lib.hid (K.kept hg2 ru8.out (fun k hk => by cases hk; omega))
    have ra9 := Lib.hid (K.kept hg2 ra8.out (fun k hk => by cases hk; omega))
    have rb9 := Lib.hid (K.kept hg2 rb8.out (fun k hk => by cases hk; omega))
    have p79 := Lib.hid (K.kept hg2 p78.out (fun k hk => by cases hk; omega))
    have p89 := Lib.hid (K.kept hg2 p88.out (fun k hk => by cases hk; omega))
    have C9 := Lib.hid hc2
    have B9 := Lib.hid (bgrown B8.out hg2 (fun k hk => by cases hk; omega))
    clear hc2 hg2 ru8 ra8 rb8 p78 p88 C8 B8
    go_wp2_with fail
    have l5 := K.lt p89.out
    have lC5 := C9.out.lt
    refine Calls.mono (HU.out _ (w.heap.size + 1 + 1 + 1) A c C9.out) ?_
    rintro e w6 ⟨O, oc, D0, d0, rfl, oo, od, ap, hc2, hg2⟩
    have ru10 := Lib.hid (K.kept hg2 ru9.out (fun k hk => by cases hk; omega))
    have ra10 := Lib.hid (K.kept hg2 ra9.out (fun k hk => by cases hk; omega))
    have rb10 := Lib.hid (K.kept hg2 rb9.out (fun k hk => by cases hk; omega))
    have p710 := Lib.hid (K.kept hg2 p79.out (fun k hk => by cases hk; omega))
    have p810 := Lib.hid (K.kept hg2 p89.out (fun k hk => by cases hk; omega))
    have C10 := Lib.hid hc2
    have B10 := Lib.hid (bgrown B9.out hg2 (fun k hk => by cases hk; omega))
    clear hc2  ru9 ra9 rb9 p79 p89 C9 B9
    have ru11 := Lib.hid (K.old ru10.out (.cells #[.int .i64 x.kind, .int .i64 x.sport, .int .i64 x.dport, .int .i64 x.seq, .int .i64 x.ack, .int .i64 x.bits, .int .i64 x.window, .int .i64 x.urgent, .int .i64 x.ty, .int .i64 x.code, .int .i64 x.rest, .bool x.nosum, .slice O os.length oc, .slice D0 ds.length d0] 36))
    have ra11 := Lib.hid (K.old ra10.out (.cells #[.int .i64 x.kind, .int .i64 x.sport, .int .i64 x.dport, .int .i64 x.seq, .int .i64 x.ack, .int .i64 x.bits, .int .i64 x.window, .int .i64 x.urgent, .int .i64 x.ty, .int .i64 x.code, .int .i64 x.rest, .bool x.nosum, .slice O os.length oc, .slice D0 ds.length d0] 36))
    have rb11 := Lib.hid (K.old rb10.out (.cells #[.int .i64 x.kind, .int .i64 x.sport, .int .i64 x.dport, .int .i64 x.seq, .int .i64 x.ack, .int .i64 x.bits, .int .i64 x.window, .int .i64 x.urgent, .int .i64 x.ty, .int .i64 x.code, .int .i64 x.rest, .bool x.nosum, .slice O os.length oc, .slice D0 ds.length d0] 36))
    have p711 := Lib.hid (K.old p710.out (.cells #[.int .i64 x.kind, .int .i64 x.sport, .int .i64 x.dport, .int .i64 x.seq, .int .i64 x.ack, .int .i64 x.bits, .int .i64 x.window, .int .i64 x.urgent, .int .i64 x.ty, .int .i64 x.code, .int .i64 x.rest, .bool x.nosum, .slice O os.length oc, .slice D0 ds.length d0] 36))
    have p811 := Lib.hid (K.old p810.out (.cells #[.int .i64 x.kind, .int .i64 x.sport, .int .i64 x.dport, .int .i64 x.seq, .int .i64 x.ack, .int .i64 x.bits, .int .i64 x.window, .int .i64 x.urgent, .int .i64 x.ty, .int .i64 x.code, .int .i64 x.rest, .bool x.nosum, .slice O os.length oc, .slice D0 ds.length d0] 36))
    have C11 := Lib.hid (C10.out.below (Joins.below_alloc1 w6 (.cells #[.int .i64 x.kind, .int .i64 x.sport, .int .i64 x.dport, .int .i64 x.seq, .int .i64 x.ack, .int .i64 x.bits, .int .i64 x.window, .int .i64 x.urgent, .int .i64 x.ty, .int .i64 x.code, .int .i64 x.rest, .bool x.nosum, .slice O os.length oc, .slice D0 ds.length d0] 36)))
    have B11 := Lib.hid (bthen B10.out (Joins.below_alloc1 w6 (.cells #[.int .i64 x.kind, .int .i64 x.sport, .int .i64 x.dport, .int .i64 x.seq, .int .i64 x.ack, .int .i64 x.bits, .int .i64 x.window, .int .i64 x.urgent, .int .i64 x.ty, .int .i64 x.code, .int .i64 x.rest, .bool x.nosum, .slice O os.length oc, .slice D0 ds.length d0] 36)))
    have q11 := Lib.hid (K.new w6 (.cells #[.int .i64 x.kind, .int .i64 x.sport, .int .i64 x.dport, .int .i64 x.seq, .int .i64 x.ack, .int .i64 x.bits, .int .i64 x.window, .int .i64 x.urgent, .int .i64 x.ty, .int .i64 x.code, .int .i64 x.rest, .bool x.nosum, .slice O os.length oc, .slice D0 ds.length d0] 36))
    have O11 := Lib.hid (World.ownsRow.alloc oo (.cells #[.int .i64 x.kind, .int .i64 x.sport, .int .i64 x.dport, .int .i64 x.seq, .int .i64 x.ack, .int .i64 x.bits, .int .i64 x.window, .int .i64 x.urgent, .int .i64 x.ty, .int .i64 x.code, .int .i64 x.rest, .bool x.nosum, .slice O os.length oc, .slice D0 ds.length d0] 36))
    have D11 := Lib.hid (World.ownsRow.alloc od (.cells #[.int .i64 x.kind, .int .i64 x.sport, .int .i64 x.dport, .int .i64 x.seq, .int .i64 x.ack, .int .i64 x.bits, .int .i64 x.window, .int .i64 x.urgent, .int .i64 x.ty, .int .i64 x.code, .int .i64 x.rest, .bool x.nosum, .slice O os.length oc, .slice D0 ds.length d0] 36))
    have AP := Lib.hid ap
    have LD := Lib.hid (fun k hk => od.lt k hk)
    have LO := Lib.hid (fun k hk => oo.lt k hk)
    have l6 : w5.heap.size ≤ w6.heap.size := hg2.size
    clear oo od ap hg2 ru10 ra10 rb10 p710 p810 C10 B10
    go_wp2_with (with_reducible refine storeNewU rfl _ _ rfl rfl rfl ?_)
    generalize w6.alloc (.cells #[.int .i64 x.kind, .int .i64 x.sport, .int .i64 x.dport, .int .i64 x.seq, .int .i64 x.ack, .int .i64 x.bits, .int .i64 x.window, .int .i64 x.urgent, .int .i64 x.ty, .int .i64 x.code, .int .i64 x.rest, .bool x.nosum, .slice O os.length oc, .slice D0 ds.length d0] 36) = w7 at ru11 ra11 rb11 p711 p811 q11 C11 B11 O11 D11 ⊢
    obtain ⟨o2, s7, hdo⟩ := onceE bs t6 s6 6 (by omega) (by omega) (by omega)
    have HO2 := Lib.hid hdo
    clear hdo
    cases o2 with
    | false =>
      refine Calls.mono (HO2.out _ (w.heap.size + 1 + 1 + 1) A c C11.out) ?_
      rintro e w8 ⟨rfl, hc2, hg2⟩
      have ru12 := Lib.hid (K.kept hg2 ru11.out (fun k hk => by cases hk; omega))
      have ra12 := Lib.hid (K.kept hg2 ra11.out (fun k hk => by cases hk; omega))
      have rb12 := Lib.hid (K.kept hg2 rb11.out (fun k hk => by cases hk; omega))
      have p712 := Lib.hid (K.kept hg2 p711.out (fun k hk => by cases hk; omega))
      have p812 := Lib.hid (K.kept hg2 p811.out (fun k hk => by cases hk; omega))
      have q12 := Lib.hid (K.kept hg2 q11.out (fun k hk => by cases hk; omega))
      have C12 := Lib.hid hc2
      have B12 := Lib.hid (bgrown B11.out hg2 (fun k hk => by cases hk; omega))
      have O12 := Lib.hid (own_grown O11.out hg2 (fun k h1 h2 => by cases h2; have := (O11.out.lt _ h1).1; omega))
      have D12 := Lib.hid (own_grown D11.out hg2 (fun k h1 h2 => by cases h2; have := (D11.out.lt _ h1).1; omega))
      clear hc2 hg2 ru11 ra11 rb11 p711 p811 q11 C11 B11 O11 D11
      go_upto_region 11 with fail
      refine wp_region_links (by kernel_rfl) [2, 3, 4, 7, 8, 9] [3, 4, 5] 56 [(0, 53), (1, 54), (2, 55)] [some (.agg #[.int .i64 x.kind, .int .i64 x.sport, .int .i64 x.dport, .int .i64 x.seq, .int .i64 x.ack, .int .i64 x.bits, .int .i64 x.window, .int .i64 x.urgent, .int .i64 x.ty, .int .i64 x.code, .int .i64 x.rest, .bool x.nosum, .slice O os.length oc, .slice D0 ds.length d0]), some (.agg #[.int .i64 z.k, .int .i64 z.a, .int .i64 z.b, .int .i64 z.c, .int .i64 z.d]), some (.agg #[.int .i64 y2.k, .int .i64 y2.a, .int .i64 y2.b, .int .i64 y2.c, .int .i64 y2.d])] (fun m v => Below w.heap.size w v ∧ v.heap[w6.heap.size]? = some (.cells #[.int .i64 x.kind, .int .i64 x.sport, .int .i64 x.dport, .int .i64 x.seq, .int .i64 x.ack, .int .i64 x.bits, .int .i64 x.window, .int .i64 x.urgent, .int .i64 x.ty, .int .i64 x.code, .int .i64 x.rest, .bool x.nosum, .slice O os.length oc, .slice D0 ds.length d0] 36 (0, 0)) ∧ v.heap[w3.heap.size]? = some (.cells #[.int .i64 z.k, .int .i64 z.a, .int .i64 z.b, .int .i64 z.c, .int .i64 z.d] 27 (0, 0)) ∧ v.heap[w3.heap.size + 1]? = some (.cells #[.int .i64 y2.k, .int .i64 y2.a, .int .i64 y2.b, .int .i64 y2.c, .int .i64 y2.d] 27 (0, 0)) ∧ v.ownsRow (w.heap.size + 1 + 1 + 1) 5 1 (.slice O os.length oc) os.length (cellsOf os) ∧ v.ownsRow (w.heap.size + 1 + 1 + 1) 5 1 (.slice D0 (ds).length d0) (ds).length (cellsOf (ds)) ∧ v.heap[w.heap.size]? = some (if m = 0 then .cells #[.int .i64 0, .int .i64 0, .int .i64 0, .int .i64 0, .int .i64 0, .int .i64 0, .int .i64 0, .int .i64 0, .int .i64 0, .int .i64 0, .int .i64 0, .bool false, .slice none 0 0, .slice none 0 0] 36 (0, 0) else .cells #[.int .i64 x.kind, .int .i64 x.sport, .int .i64 x.dport, .int .i64 x.seq, .int .i64 x.ack, .int .i64 x.bits, .int .i64 x.window, .int .i64 x.urgent, .int .i64 x.ty, .int .i64 x.code, .int .i64 x.rest, .bool x.nosum, .slice O os.length oc, .slice D0 ds.length d0] 36 (0, 0)) ∧ v.heap[w.heap.size + 1]? = some (if m ≤ 1 then .cells #[.int .i64 0, .int .i64 0, .int .i64 0, .int .i64 0, .int .i64 0] 27 (0, 0) else .cells #[.int .i64 z.k, .int .i64 z.a, .int .i64 z.b, .int .i64 z.c, .int .i64 z.d] 27 (0, 0)) ∧ v.heap[w.heap.size + 1 + 1]? = some (if m ≤ 2 then .cells #[.int .i64 0, .int .i64 0, .int .i64 0, .int .i64 0, .int .i64 0] 27 (0, 0) else .cells #[.int .i64 y2.k, .int .i64 y2.a, .int .i64 y2.b, .int .i64 y2.c, .int .i64 y2.d] 27 (0, 0))) (by kernel_rfl) (by kernel_rfl) (by kernel_rfl) rfl ⟨⟨B12.out.os, B12.out.tape, B12.out.output, B12.out.size, B12.out.block⟩, q12.out, p712.out, p812.out, own_base O12.out (by omega), own_base D12.out (by omega), ru12.out, ra12.out, rb12.out⟩ ?_ ?_
      · intro j o ho m a' v K' hx hnd hm hI hK
        obtain ⟨i0, i1, i2, i3, i4, i5, i6, i7, i8⟩ := hI
        match j, ho with
        | 0, ho =>
          obtain rfl := Option.some.inj ho
          have h0 : a'.eval (.tmp 9) = .pointer (some ⟨w6.heap.size, 0, none⟩) := (hx 9 (by decide)).trans rfl
          exact wp_load_row 36 _ rfl w6.heap.size h0 _ _ (0, 0) _ i1 Try.underlying36 rfl info_up (hK _ _ (fun x hx => Option.some.inj hx) ⟨i0, i1, i2, i3, i4, i5, i6, i7, i8⟩)
        | 1, ho =>
          obtain rfl := Option.some.inj ho
          have h0 : a'.eval (.tmp 7) = .pointer (some ⟨w3.heap.size, 0, none⟩) := (hx 7 (by decide)).trans rfl
          exact wp_load_row 27 _ rfl w3.heap.size h0 _ _ (0, 0) _ i2 Try.underlying27 rfl info_addrP (hK _ _ (fun x hx => Option.some.inj hx) ⟨i0, i1, i2, i3, i4, i5, i6, i7, i8⟩)
        | 2, ho =>
          obtain rfl := Option.some.inj ho
          have h0 : a'.eval (.tmp 8) = .pointer (some ⟨(w3.heap.size + 1), 0, none⟩) := (hx 8 (by decide)).trans rfl
          exact wp_load_row 27 _ rfl (w3.heap.size + 1) h0 _ _ (0, 0) _ i3 Try.underlying27 rfl info_addrP (hK _ _ (fun x hx => Option.some.inj hx) ⟨i0, i1, i2, i3, i4, i5, i6, i7, i8⟩)
        | 3, ho =>
          obtain rfl := Option.some.inj ho
          obtain rfl : 0 = m := hm 0 rfl
          have h0 : a'.eval (.tmp 2) = .pointer (some ⟨w.heap.size, 0, none⟩) := (hx 2 (by decide)).trans rfl
          have h1 : a'.eval (.tmp 53) = .agg #[.int .i64 x.kind, .int .i64 x.sport, .int .i64 x.dport, .int .i64 x.seq, .int .i64 x.ack, .int .i64 x.bits, .int .i64 x.window, .int .i64 x.urgent, .int .i64 x.ty, .int .i64 x.code, .int .i64 x.rest, .bool x.nosum, .slice O os.length oc, .slice D0 ds.length d0] := links_of hnd 0 53 _ (by kernel_rfl) rfl
          exact wp_store_row 36 _ _ rfl w.heap.size _ h0 h1 _ _ i6 info_up rfl (by simp [Value.oneCell']) (hK _ _ (fun x hx => by cases hx) ⟨K.setRow_below i0 (by omega) _, (setRow_other _ _ _ _ (by omega)).trans i1, (setRow_other _ _ _ _ (by omega)).trans i2, (setRow_other _ _ _ _ (by omega)).trans i3, K.setRow_own _ i4 (by omega), K.setRow_own _ i5 (by omega), setRow_heap _ _ _ _ _ _ i6, (setRow_other _ _ _ _ (by omega)).trans i7, (setRow_other _ _ _ _ (by omega)).trans i8⟩)
        | 4, ho =>
          obtain rfl := Option.some.inj ho
          obtain rfl : 1 = m := hm 1 rfl
          have h0 : a'.eval (.tmp 3) = .pointer (some ⟨(w.heap.size + 1), 0, none⟩) := (hx 3 (by decide)).trans rfl
          have h1 : a'.eval (.tmp 54) = .agg #[.int .i64 z.k, .int .i64 z.a, .int .i64 z.b, .int .i64 z.c, .int .i64 z.d] := links_of hnd 1 54 _ (by kernel_rfl) rfl
          exact wp_store_row 27 _ _ rfl (w.heap.size + 1) _ h0 h1 _ _ i7 info_addrP rfl (by simp [Value.oneCell']) (hK _ _ (fun x hx => by cases hx) ⟨K.setRow_below i0 (by omega) _, (setRow_other _ _ _ _ (by omega)).trans i1, (setRow_other _ _ _ _ (by omega)).trans i2, (setRow_other _ _ _ _ (by omega)).trans i3, K.setRow_own _ i4 (by omega), K.setRow_own _ i5 (by omega), (setRow_other _ _ _ _ (by omega)).trans i6, setRow_heap _ _ _ _ _ _ i7, (setRow_other _ _ _ _ (by omega)).trans i8⟩)
        | 5, ho =>
          obtain rfl := Option.some.inj ho
          obtain rfl : 2 = m := hm 2 rfl
          have h0 : a'.eval (.tmp 4) = .pointer (some ⟨(w.heap.size + 1 + 1), 0, none⟩) := (hx 4 (by decide)).trans rfl
          have h1 : a'.eval (.tmp 55) = .agg #[.int .i64 y2.k, .int .i64 y2.a, .int .i64 y2.b, .int .i64 y2.c, .int .i64 y2.d] := links_of hnd 2 55 _ (by kernel_rfl) rfl
          exact wp_store_row 27 _ _ rfl (w.heap.size + 1 + 1) _ h0 h1 _ _ i8 info_addrP rfl (by simp [Value.oneCell']) (hK _ _ (fun x hx => by cases hx) ⟨K.setRow_below i0 (by omega) _, (setRow_other _ _ _ _ (by omega)).trans i1, (setRow_other _ _ _ _ (by omega)).trans i2, (setRow_other _ _ _ _ (by omega)).trans i3, K.setRow_own _ i4 (by omega), K.setRow_own _ i5 (by omega), (setRow_other _ _ _ _ (by omega)).trans i6, (setRow_other _ _ _ _ (by omega)).trans i7, setRow_heap _ _ _ _ _ _ i8⟩)
        | j + 6, ho => simp at ho
      · intro f v hf hI
        obtain ⟨i0, i1, i2, i3, i4, i5, i6, i7, i8⟩ := hI
        have e0 : f 0 = .agg #[.int .i64 x.kind, .int .i64 x.sport, .int .i64 x.dport, .int .i64 x.seq, .int .i64 x.ack, .int .i64 x.bits, .int .i64 x.window, .int .i64 x.urgent, .int .i64 x.ty, .int .i64 x.code, .int .i64 x.rest, .bool x.nosum, .slice O os.length oc, .slice D0 ds.length d0] := hf (0, 53) (by decide) _ rfl
        have e1 : f 1 = .agg #[.int .i64 z.k, .int .i64 z.a, .int .i64 z.b, .int .i64 z.c, .int .i64 z.d] := hf (1, 54) (by decide) _ rfl
        have e2 : f 2 = .agg #[.int .i64 y2.k, .int .i64 y2.a, .int .i64 y2.b, .int .i64 y2.c, .int .i64 y2.d] := hf (2, 55) (by decide) _ rfl
        have x0 := Lib.hid i6
        have x1 := Lib.hid i7
        have x2 := Lib.hid i8
        have oo := Lib.hid i4
        have od := Lib.hid i5
        have bz := Lib.hid i0
        clear i0 i1 i2 i3 i4 i5 i6 i7 i8 ru12 ra12 rb12 p712 p812 q12 C12 B12 O12 D12
        simp only [List.foldl_cons, List.foldl_nil, e0, e1, e2]
        clear e0 e1 e2 hf
        go_simp
        go_wp2
        (try simp only [Exit.inBlock, Exit.then])
        refine bodyPost_ret (v := .tuple #[.agg #[.int .i64 x.kind, .int .i64 x.sport, .int .i64 x.dport, .int .i64 x.seq, .int .i64 x.ack, .int .i64 x.bits, .int .i64 x.window, .int .i64 x.urgent, .int .i64 x.ty, .int .i64 x.code, .int .i64 x.rest, .bool x.nosum, .slice O os.length oc, .slice D0 ds.length d0], .agg #[.int .i64 z.k, .int .i64 z.a, .int .i64 z.b, .int .i64 z.c, .int .i64 z.d], .agg #[.int .i64 y2.k, .int .i64 y2.a, .int .i64 y2.b, .int .i64 y2.c, .int .i64 y2.d]]) ?_ rfl ⟨x, os, ds, z, y2, O, oc, D0, d0, hos, hds, rfl, own_base oo.out (by omega), own_base od.out (by omega), bz.out⟩
        exact res3 Try.results25 _ _ _ _ _ _ _ _ _ rfl rfl rfl (run_loadVar_row _ _ 36 36 _ (0, 0) _ x0.out Try.underlying36 rfl info_up) (run_loadVar_row _ _ 27 27 _ (0, 0) _ x1.out Try.underlying27 rfl info_addrP) (run_loadVar_row _ _ 27 27 _ (0, 0) _ x2.out Try.underlying27 rfl info_addrP)
    | true =>
      refine Calls.mono (HO2.out _ (w.heap.size + 1 + 1 + 1) A c C11.out) ?_
      rintro e w8 ⟨rfl, hc2, hg2⟩
      have ru12 := Lib.hid (K.kept hg2 ru11.out (fun k hk => by cases hk; omega))
      have ra12 := Lib.hid (K.kept hg2 ra11.out (fun k hk => by cases hk; omega))
      have rb12 := Lib.hid (K.kept hg2 rb11.out (fun k hk => by cases hk; omega))
      have p712 := Lib.hid (K.kept hg2 p711.out (fun k hk => by cases hk; omega))
      have p812 := Lib.hid (K.kept hg2 p811.out (fun k hk => by cases hk; omega))
      have q12 := Lib.hid (K.kept hg2 q11.out (fun k hk => by cases hk; omega))
      have C12 := Lib.hid hc2
      have B12 := Lib.hid (bgrown B11.out hg2 (fun k hk => by cases hk; omega))
      have O12 := Lib.hid (own_grown O11.out hg2 (fun k h1 h2 => by cases h2; have := (O11.out.lt _ h1).1; omega))
      have D12 := Lib.hid (own_grown D11.out hg2 (fun k h1 h2 => by cases h2; have := (D11.out.lt _ h1).1; omega))
      clear hc2 hg2 ru11 ra11 rb11 p711 p811 q11 C11 B11 O11 D11
      have d13 := K.cell q12.out 13 _ rfl
      by_cases hL : 1 < ds.length
      · skip
        have hL2 : (1 : Int) < (ds.length : Int) := by omega
        go_upto_region 8 with fail
        clear d13
        have DF := Lib.hid (own_front D12.out 0 (by omega))
        have AF := Lib.hid (show ∀ k, (Value.slice D0 0 d0).ownBlock = some k → w5.heap.size ≤ k ∧ k < w6.heap.size from fun k hk => LD.out k ((ownBlk D0 0 d0 ds.length).symm.trans hk))
        have HBK := Lib.hid (show ∀ k, (Value.slice D0 0 d0).ownBlock = some k → k < w8.heap.size from fun k hk => (DF.out.lt k hk).2)
        have lq8 := K.lt q12.out
        refine wp_region_grow (w := w8) ((Value.slice D0 0 d0).ownBlock) (by kernel_rfl) 6 56 [(0, 39), (1, 40), (2, 41), (3, 42), (4, 43), (5, 44)] _ ([.val (.pointer (some ⟨w6.heap.size, 13, none⟩)), .val (.slice D0 ds.length d0), .val (.slice D0 0 d0), .pr (OwnB w8.heap.size 2 (put16 0)) OwnB.on (OwnB.grown HBK.out), .any, .val (.pointer (some ⟨w6.heap.size, 13, none⟩))]) (by kernel_rfl) (by kernel_rfl) rfl 4 43 (by omega) (by decide) rfl (fun b' v => Below w.heap.size w v ∧ v.heap[w6.heap.size]? = some (.cells #[.int .i64 x.kind, .int .i64 x.sport, .int .i64 x.dport, .int .i64 x.seq, .int .i64 x.ack, .int .i64 x.bits, .int .i64 x.window, .int .i64 x.urgent, .int .i64 x.ty, .int .i64 x.code, .int .i64 x.rest, .bool x.nosum, .slice O os.length oc, .slice D0 ds.length d0] 36 (0, 0)) ∧ v.heap[w3.heap.size]? = some (.cells #[.int .i64 z.k, .int .i64 z.a, .int .i64 z.b, .int .i64 z.c, .int .i64 z.d] 27 (0, 0)) ∧ v.heap[(w3.heap.size + 1)]? = some (.cells #[.int .i64 y2.k, .int .i64 y2.a, .int .i64 y2.b, .int .i64 y2.c, .int .i64 y2.d] 27 (0, 0)) ∧ v.heap[w.heap.size]? = some (.cells #[.int .i64 0, .int .i64 0, .int .i64 0, .int .i64 0, .int .i64 0, .int .i64 0, .int .i64 0, .int .i64 0, .int .i64 0, .int .i64 0, .int .i64 0, .bool false, .slice none 0 0, .slice none 0 0] 36 (0, 0)) ∧ v.heap[(w.heap.size + 1)]? = some (.cells #[.int .i64 0, .int .i64 0, .int .i64 0, .int .i64 0, .int .i64 0] 27 (0, 0)) ∧ v.heap[(w.heap.size + 1 + 1)]? = some (.cells #[.int .i64 0, .int .i64 0, .int .i64 0, .int .i64 0, .int .i64 0] 27 (0, 0)) ∧ w8.heap.size ≤ v.heap.size ∧ v.ownsRow w5.heap.size 5 1 (.slice O os.length oc) os.length (cellsOf os) ∧ (b' = false → v.ownsRow w5.heap.size 5 1 (.slice D0 0 d0) 0 (cellsOf []))) (fun b' v v' hb h => ⟨bthen h.1 hb, K.below hb h.2.1, K.below hb h.2.2.1, K.below hb h.2.2.2.1, K.below hb h.2.2.2.2.1, K.below hb h.2.2.2.2.2.1, K.below hb h.2.2.2.2.2.2.1, Nat.le_trans h.2.2.2.2.2.2.2.1 hb.size, own_below h.2.2.2.2.2.2.2.2.1 hb, fun e => own_below (h.2.2.2.2.2.2.2.2.2 e) hb⟩) ⟨⟨B12.out.os, B12.out.tape, B12.out.output, B12.out.size, B12.out.block⟩, q12.out, p712.out, p812.out, ru12.out, ra12.out, rb12.out, Nat.le_refl _, O12.out, fun _ => DF.out⟩ (OwnB w5.heap.size 2 (put16 0)) (fun v v' u hb h => OwnB.on v v' u hb h) ?_ ?_ ?_
        · intro j o hj hjp ho b' a' v K' hbt hx hnd hJJ hK
          match j, hj, hjp, ho with
          | 0, _, _, ho =>
            obtain rfl := Option.some.inj ho
            have h0 : a'.eval (.tmp 9) = .pointer (some ⟨w6.heap.size, 0, none⟩) := (hx 9 (by decide)).trans rfl
            exact u_fldU13 _ _ rfl h0 (hK _ _ rfl (Below.refl _ _))
          | 1, _, _, ho =>
            obtain rfl := Option.some.inj ho
            have h0 : a'.eval (.tmp 39) = .pointer (some ⟨w6.heap.size, 13, none⟩) := (grow_of hnd 0 39 (by kernel_rfl) (by decide) :)
            exact u_bytes _ _ _ _ rfl h0 (K.cell hJJ.2.1 13 _ rfl) (hK _ _ rfl (Below.refl _ _))
          | 2, _, _, ho =>
            obtain rfl := Option.some.inj ho
            have h0 : a'.eval (.tmp 40) = .slice D0 ds.length d0 := (grow_of hnd 1 40 (by kernel_rfl) (by decide) :)
            exact u_cutF _ _ _ rfl h0 (fun w => cut_front D0 ds.length d0 0 (by omega) w) (hK _ _ rfl (Below.refl _ _))
          | 3, _, _, ho =>
            obtain rfl := Option.some.inj ho
            refine u_p16S _ _ _ rfl rfl (Calls.mono (put16S 0 v) ?_)
            rintro e' v' ⟨E6, k6, rfl, o6, b6⟩
            exact ⟨_, rfl, hK _ _ ⟨E6, k6, rfl, own_base o6 hJJ.2.2.2.2.2.2.2.1⟩ b6⟩
          | 4, _, hjp, _ => exact absurd rfl hjp
          | 5, _, _, ho =>
            obtain rfl := Option.some.inj ho
            have h0 : a'.eval (.tmp 9) = .pointer (some ⟨w6.heap.size, 0, none⟩) := (hx 9 (by decide)).trans rfl
            exact u_fldU13 _ _ rfl h0 (hK _ _ rfl (Below.refl _ _))
          | j + 6, hj, _, _ => omega
        · intro o ho a' v K' hx hnd hJJ hK
          obtain rfl := Option.some.inj ho
          have h0 : a'.eval (.tmp 41) = .slice D0 0 d0 := (grow_of hnd 2 41 (by kernel_rfl) (by decide) :)
          obtain ⟨E6, k6, h1, o6⟩ := (grow_of hnd 3 42 (by kernel_rfl) (by decide) :)
          refine wp_append_f _ _ rfl w5.heap.size _ h0 (hJJ.2.2.2.2.2.2.2.2.2 rfl) v.heap.size E6 2 k6 (put16 0) h1 rfl (RB.of_own o6) (by decide) (by have := hJJ.2.2.2.2.2.2.2.1; omega) ?_
          intro E8 k8 v' o8 g8
          exact hK _ _ ⟨E8, k8, rfl, o8⟩ g8 ⟨bgrown hJJ.1 g8 (fun k hk => by have := AF.out k hk; have := l5; omega), K.kept g8 hJJ.2.1 (fun k hk => by have := AF.out k hk; omega), K.kept g8 hJJ.2.2.1 (fun k hk => by have := AF.out k hk; omega), K.kept g8 hJJ.2.2.2.1 (fun k hk => by have := AF.out k hk; omega), K.kept g8 hJJ.2.2.2.2.1 (fun k hk => by have := AF.out k hk; omega), K.kept g8 hJJ.2.2.2.2.2.1 (fun k hk => by have := AF.out k hk; omega), K.kept g8 hJJ.2.2.2.2.2.2.1 (fun k hk => by have := AF.out k hk; omega), Nat.le_trans hJJ.2.2.2.2.2.2.2.1 g8.size, own_grown hJJ.2.2.2.2.2.2.2.2.1 g8 (fun k h1 h2 => AP.out k h1 ((ownBlk D0 0 d0 ds.length).symm.trans h2)), fun e => by cases e⟩
        · intro f v hf OG hJJ
          have e0 : f 0 = (.pointer (some ⟨w6.heap.size, 13, none⟩)) := hf (0, 39) (by decide) (by decide)
          have e1 : f 1 = (.slice D0 ds.length d0) := hf (1, 40) (by decide) (by decide)
          have e2 : f 2 = (.slice D0 0 d0) := hf (2, 41) (by decide) (by decide)
          have e5 : f 5 = (.pointer (some ⟨w6.heap.size, 13, none⟩)) := hf (5, 44) (by decide) (by decide)
          simp only [List.foldl_cons, List.foldl_nil, List.drop_succ_cons, List.drop_zero, e0, e1, e2, e5]
          clear e0 e1 e2 e5 hf
          go_simp
          obtain ⟨E9, k9, e9, oE⟩ := OG
          rw [e9]
          clear e9
          obtain ⟨j0, j1, j2, j3, j4, j5, j6, j7, j8, _⟩ := hJJ
          have u13 := K.cell j1 13 _ rfl
          have y13 := frozen_of_row _ _ 13 _ _ j1
          have lE := oE.lt
          have lO := j8.lt
          have q90 : Hid ((v.setCell ⟨w6.heap.size, 13, none⟩ (.slice E9 2 k9)).heap[w6.heap.size]? = some (.cells #[.int .i64 x.kind, .int .i64 x.sport, .int .i64 x.dport, .int .i64 x.seq, .int .i64 x.ack, .int .i64 x.bits, .int .i64 x.window, .int .i64 x.urgent, .int .i64 x.ty, .int .i64 x.code, .int .i64 x.rest, .bool x.nosum, .slice O os.length oc, .slice E9 2 k9] 36 (0, 0))) := Lib.hid (K.set j1 13 _)
          have p790 := Lib.hid (K.other j2 w6.heap.size 13 (.slice E9 2 k9) (by omega))
          have p890 := Lib.hid (K.other j3 w6.heap.size 13 (.slice E9 2 k9) (by omega))
          have ru90 := Lib.hid (K.other j4 w6.heap.size 13 (.slice E9 2 k9) (by omega))
          have ra90 := Lib.hid (K.other j5 w6.heap.size 13 (.slice E9 2 k9) (by omega))
          have rb90 := Lib.hid (K.other j6 w6.heap.size 13 (.slice E9 2 k9) (by omega))
          have B90 : Hid (Below w.heap.size w (v.setCell ⟨w6.heap.size, 13, none⟩ (.slice E9 2 k9))) := Lib.hid (j0.setCell (p := ⟨w6.heap.size, 13, none⟩) (show w.heap.size ≤ w6.heap.size by omega) (.slice E9 2 k9))
          have O90 := Lib.hid (own_grown j8 (grownBy_set v w6.heap.size 13 (.slice E9 2 k9)) (fun k h1 h2 => by cases h2; exact own_neU j8 j1 _ h1 rfl))
          have D90 := Lib.hid (own_grown oE (grownBy_set v w6.heap.size 13 (.slice E9 2 k9)) (fun k h1 h2 => by cases h2; exact own_neU oE j1 _ h1 rfl))
          clear oE j0 j2 j3 j4 j5 j6 j7 j8
          go_upto_region 9 with fail
          clear u13 y13 j1
          generalize (v.setCell ⟨w6.heap.size, 13, none⟩ (.slice E9 2 k9)) = w9 at q90 p790 p890 ru90 ra90 rb90 B90 O90 D90 ⊢
          go_wp2_with (first | (with_reducible refine loadU rfl _ rfl w6.heap.size rfl q90.out ?_) | (with_reducible refine loadA rfl _ rfl w3.heap.size rfl p790.out ?_) | (with_reducible refine loadA rfl _ rfl (w3.heap.size + 1) rfl p890.out ?_))
          refine Calls.mono (usS x z y2 O E9 os.length oc 2 k9 os (put16 0) _ (RB.of_own O90.out) rfl (RB.of_own D90.out) rfl (by omega) (by omega)) ?_
          rintro e w10 ⟨rfl, b10⟩
          generalize Uh.sum x os (put16 0) z y2 = S
          have ru91 := Lib.hid (K.below b10 ru90.out)
          have ra91 := Lib.hid (K.below b10 ra90.out)
          have rb91 := Lib.hid (K.below b10 rb90.out)
          have p791 := Lib.hid (K.below b10 p790.out)
          have p891 := Lib.hid (K.below b10 p890.out)
          have q91 := Lib.hid (K.below b10 q90.out)
          have B91 := Lib.hid (bthen B90.out b10)
          have O91 := Lib.hid (own_below O90.out b10)
          have D91 := Lib.hid (own_below D90.out b10)
          clear b10 ru90 ra90 rb90 p790 p890 q90 B90 O90 D90
          obtain ⟨M, hM⟩ : ∃ M : Int, (if (0 : Int) < S then S else 0) = M := ⟨_, rfl⟩
          go_wp2_with fail
          refine Calls.mono (put16S _ _) ?_
          rintro e w11 ⟨E7, k7, rfl, o7, b11⟩
          have OE := Lib.hid (own_base o7 (show w5.heap.size ≤ _ by have := K.lt q91.out; omega))
          have NE := Lib.hid (fun k hk => (o7.lt k hk).1)
          have lq10 := K.lt q91.out
          clear o7
          clear D91
          have ru92 := Lib.hid (K.below b11 ru91.out)
          have ra92 := Lib.hid (K.below b11 ra91.out)
          have rb92 := Lib.hid (K.below b11 rb91.out)
          have p792 := Lib.hid (K.below b11 p791.out)
          have p892 := Lib.hid (K.below b11 p891.out)
          have q92 := Lib.hid (K.below b11 q91.out)
          have B92 := Lib.hid (bthen B91.out b11)
          have O92 := Lib.hid (own_below O91.out b11)
          clear b11 ru91 ra91 rb91 p791 p891 q91 B91 O91
          have u13 := K.cell q92.out 13 _ rfl
          have y13 := frozen_of_row _ _ 13 _ _ q92.out
          have q93 : Hid ((w11.setCell ⟨w6.heap.size, 13, none⟩ (.slice E7 2 k7)).heap[w6.heap.size]? = some (.cells #[.int .i64 x.kind, .int .i64 x.sport, .int .i64 x.dport, .int .i64 x.seq, .int .i64 x.ack, .int .i64 x.bits, .int .i64 x.window, .int .i64 x.urgent, .int .i64 x.ty, .int .i64 x.code, .int .i64 x.rest, .bool x.nosum, .slice O os.length oc, .slice E7 2 k7] 36 (0, 0))) := Lib.hid (K.set q92.out 13 _)
          have p793 := Lib.hid (K.other p792.out w6.heap.size 13 (.slice E7 2 k7) (by omega))
          have p893 := Lib.hid (K.other p892.out w6.heap.size 13 (.slice E7 2 k7) (by omega))
          have ru93 := Lib.hid (K.other ru92.out w6.heap.size 13 (.slice E7 2 k7) (by omega))
          have ra93 := Lib.hid (K.other ra92.out w6.heap.size 13 (.slice E7 2 k7) (by omega))
          have rb93 := Lib.hid (K.other rb92.out w6.heap.size 13 (.slice E7 2 k7) (by omega))
          have B93 : Hid (Below w.heap.size w (w11.setCell ⟨w6.heap.size, 13, none⟩ (.slice E7 2 k7))) := Lib.hid (B92.out.setCell (p := ⟨w6.heap.size, 13, none⟩) (show w.heap.size ≤ w6.heap.size by omega) (.slice E7 2 k7))
          have O93 := Lib.hid (own_grown O92.out (grownBy_set w11 w6.heap.size 13 (.slice E7 2 k7)) (fun k h1 h2 => by cases h2; exact own_neU O92.out q92.out _ h1 rfl))
          have D93 := Lib.hid (own_grown OE.out (grownBy_set w11 w6.heap.size 13 (.slice E7 2 k7)) (fun k h1 h2 => by cases h2; have := NE.out _ h1; omega))
          go_upto_region 11 with fail
          clear u13 y13 OE ru92 ra92 rb92 p792 p892 q92 B92 O92
          generalize (w11.setCell ⟨w6.heap.size, 13, none⟩ (.slice E7 2 k7)) = w12 at ru93 ra93 rb93 p793 p893 q93 B93 O93 D93 ⊢
          go_upto_region 11 with fail
          refine wp_region_links (by kernel_rfl) [2, 3, 4, 7, 8, 9] [3, 4, 5] 56 [(0, 53), (1, 54), (2, 55)] [some (.agg #[.int .i64 x.kind, .int .i64 x.sport, .int .i64 x.dport, .int .i64 x.seq, .int .i64 x.ack, .int .i64 x.bits, .int .i64 x.window, .int .i64 x.urgent, .int .i64 x.ty, .int .i64 x.code, .int .i64 x.rest, .bool x.nosum, .slice O os.length oc, .slice E7 2 k7]), some (.agg #[.int .i64 z.k, .int .i64 z.a, .int .i64 z.b, .int .i64 z.c, .int .i64 z.d]), some (.agg #[.int .i64 y2.k, .int .i64 y2.a, .int .i64 y2.b, .int .i64 y2.c, .int .i64 y2.d])] (fun m v => Below w.heap.size w v ∧ v.heap[w6.heap.size]? = some (.cells #[.int .i64 x.kind, .int .i64 x.sport, .int .i64 x.dport, .int .i64 x.seq, .int .i64 x.ack, .int .i64 x.bits, .int .i64 x.window, .int .i64 x.urgent, .int .i64 x.ty, .int .i64 x.code, .int .i64 x.rest, .bool x.nosum, .slice O os.length oc, .slice E7 2 k7] 36 (0, 0)) ∧ v.heap[w3.heap.size]? = some (.cells #[.int .i64 z.k, .int .i64 z.a, .int .i64 z.b, .int .i64 z.c, .int .i64 z.d] 27 (0, 0)) ∧ v.heap[w3.heap.size + 1]? = some (.cells #[.int .i64 y2.k, .int .i64 y2.a, .int .i64 y2.b, .int .i64 y2.c, .int .i64 y2.d] 27 (0, 0)) ∧ v.ownsRow (w.heap.size + 1 + 1 + 1) 5 1 (.slice O os.length oc) os.length (cellsOf os) ∧ v.ownsRow (w.heap.size + 1 + 1 + 1) 5 1 (.slice E7 ((put16 M)).length k7) ((put16 M)).length (cellsOf ((put16 M))) ∧ v.heap[w.heap.size]? = some (if m = 0 then .cells #[.int .i64 0, .int .i64 0, .int .i64 0, .int .i64 0, .int .i64 0, .int .i64 0, .int .i64 0, .int .i64 0, .int .i64 0, .int .i64 0, .int .i64 0, .bool false, .slice none 0 0, .slice none 0 0] 36 (0, 0) else .cells #[.int .i64 x.kind, .int .i64 x.sport, .int .i64 x.dport, .int .i64 x.seq, .int .i64 x.ack, .int .i64 x.bits, .int .i64 x.window, .int .i64 x.urgent, .int .i64 x.ty, .int .i64 x.code, .int .i64 x.rest, .bool x.nosum, .slice O os.length oc, .slice E7 2 k7] 36 (0, 0)) ∧ v.heap[w.heap.size + 1]? = some (if m ≤ 1 then .cells #[.int .i64 0, .int .i64 0, .int .i64 0, .int .i64 0, .int .i64 0] 27 (0, 0) else .cells #[.int .i64 z.k, .int .i64 z.a, .int .i64 z.b, .int .i64 z.c, .int .i64 z.d] 27 (0, 0)) ∧ v.heap[w.heap.size + 1 + 1]? = some (if m ≤ 2 then .cells #[.int .i64 0, .int .i64 0, .int .i64 0, .int .i64 0, .int .i64 0] 27 (0, 0) else .cells #[.int .i64 y2.k, .int .i64 y2.a, .int .i64 y2.b, .int .i64 y2.c, .int .i64 y2.d] 27 (0, 0))) (by kernel_rfl) (by kernel_rfl) (by kernel_rfl) rfl ⟨⟨B93.out.os, B93.out.tape, B93.out.output, B93.out.size, B93.out.block⟩, q93.out, p793.out, p893.out, own_base O93.out (by omega), own_base D93.out (by omega), ru93.out, ra93.out, rb93.out⟩ ?_ ?_
          · intro j o ho m a' v K' hx hnd hm hI hK
            obtain ⟨i0, i1, i2, i3, i4, i5, i6, i7, i8⟩ := hI
            match j, ho with
            | 0, ho =>
              obtain rfl := Option.some.inj ho
              have h0 : a'.eval (.tmp 9) = .pointer (some ⟨w6.heap.size, 0, none⟩) := (hx 9 (by decide)).trans rfl
              exact wp_load_row 36 _ rfl w6.heap.size h0 _ _ (0, 0) _ i1 Try.underlying36 rfl info_up (hK _ _ (fun x hx => Option.some.inj hx) ⟨i0, i1, i2, i3, i4, i5, i6, i7, i8⟩)
            | 1, ho =>
              obtain rfl := Option.some.inj ho
              have h0 : a'.eval (.tmp 7) = .pointer (some ⟨w3.heap.size, 0, none⟩) := (hx 7 (by decide)).trans rfl
              exact wp_load_row 27 _ rfl w3.heap.size h0 _ _ (0, 0) _ i2 Try.underlying27 rfl info_addrP (hK _ _ (fun x hx => Option.some.inj hx) ⟨i0, i1, i2, i3, i4, i5, i6, i7, i8⟩)
            | 2, ho =>
              obtain rfl := Option.some.inj ho
              have h0 : a'.eval (.tmp 8) = .pointer (some ⟨(w3.heap.size + 1), 0, none⟩) := (hx 8 (by decide)).trans rfl
              exact wp_load_row 27 _ rfl (w3.heap.size + 1) h0 _ _ (0, 0) _ i3 Try.underlying27 rfl info_addrP (hK _ _ (fun x hx => Option.some.inj hx) ⟨i0, i1, i2, i3, i4, i5, i6, i7, i8⟩)
            | 3, ho =>
              obtain rfl := Option.some.inj ho
              obtain rfl : 0 = m := hm 0 rfl
              have h0 : a'.eval (.tmp 2) = .pointer (some ⟨w.heap.size, 0, none⟩) := (hx 2 (by decide)).trans rfl
              have h1 : a'.eval (.tmp 53) = .agg #[.int .i64 x.kind, .int .i64 x.sport, .int .i64 x.dport, .int .i64 x.seq, .int .i64 x.ack, .int .i64 x.bits, .int .i64 x.window, .int .i64 x.urgent, .int .i64 x.ty, .int .i64 x.code, .int .i64 x.rest, .bool x.nosum, .slice O os.length oc, .slice E7 2 k7] := links_of hnd 0 53 _ (by kernel_rfl) rfl
              exact wp_store_row 36 _ _ rfl w.heap.size _ h0 h1 _ _ i6 info_up rfl (by simp [Value.oneCell']) (hK _ _ (fun x hx => by cases hx) ⟨K.setRow_below i0 (by omega) _, (setRow_other _ _ _ _ (by omega)).trans i1, (setRow_other _ _ _ _ (by omega)).trans i2, (setRow_other _ _ _ _ (by omega)).trans i3, K.setRow_own _ i4 (by omega), K.setRow_own _ i5 (by omega), setRow_heap _ _ _ _ _ _ i6, (setRow_other _ _ _ _ (by omega)).trans i7, (setRow_other _ _ _ _ (by omega)).trans i8⟩)
            | 4, ho =>
              obtain rfl := Option.some.inj ho
              obtain rfl : 1 = m := hm 1 rfl
              have h0 : a'.eval (.tmp 3) = .pointer (some ⟨(w.heap.size + 1), 0, none⟩) := (hx 3 (by decide)).trans rfl
              have h1 : a'.eval (.tmp 54) = .agg #[.int .i64 z.k, .int .i64 z.a, .int .i64 z.b, .int .i64 z.c, .int .i64 z.d] := links_of hnd 1 54 _ (by kernel_rfl) rfl
              exact wp_store_row 27 _ _ rfl (w.heap.size + 1) _ h0 h1 _ _ i7 info_addrP rfl (by simp [Value.oneCell']) (hK _ _ (fun x hx => by cases hx) ⟨K.setRow_below i0 (by omega) _, (setRow_other _ _ _ _ (by omega)).trans i1, (setRow_other _ _ _ _ (by omega)).trans i2, (setRow_other _ _ _ _ (by omega)).trans i3, K.setRow_own _ i4 (by omega), K.setRow_own _ i5 (by omega), (setRow_other _ _ _ _ (by omega)).trans i6, setRow_heap _ _ _ _ _ _ i7, (setRow_other _ _ _ _ (by omega)).trans i8⟩)
            | 5, ho =>
              obtain rfl := Option.some.inj ho
              obtain rfl : 2 = m := hm 2 rfl
              have h0 : a'.eval (.tmp 4) = .pointer (some ⟨(w.heap.size + 1 + 1), 0, none⟩) := (hx 4 (by decide)).trans rfl
              have h1 : a'.eval (.tmp 55) = .agg #[.int .i64 y2.k, .int .i64 y2.a, .int .i64 y2.b, .int .i64 y2.c, .int .i64 y2.d] := links_of hnd 2 55 _ (by kernel_rfl) rfl
              exact wp_store_row 27 _ _ rfl (w.heap.size + 1 + 1) _ h0 h1 _ _ i8 info_addrP rfl (by simp [Value.oneCell']) (hK _ _ (fun x hx => by cases hx) ⟨K.setRow_below i0 (by omega) _, (setRow_other _ _ _ _ (by omega)).trans i1, (setRow_other _ _ _ _ (by omega)).trans i2, (setRow_other _ _ _ _ (by omega)).trans i3, K.setRow_own _ i4 (by omega), K.setRow_own _ i5 (by omega), (setRow_other _ _ _ _ (by omega)).trans i6, (setRow_other _ _ _ _ (by omega)).trans i7, setRow_heap _ _ _ _ _ _ i8⟩)
            | j + 6, ho => simp at ho
          · intro f v hf hI
            obtain ⟨i0, i1, i2, i3, i4, i5, i6, i7, i8⟩ := hI
            have e0 : f 0 = .agg #[.int .i64 x.kind, .int .i64 x.sport, .int .i64 x.dport, .int .i64 x.seq, .int .i64 x.ack, .int .i64 x.bits, .int .i64 x.window, .int .i64 x.urgent, .int .i64 x.ty, .int .i64 x.code, .int .i64 x.rest, .bool x.nosum, .slice O os.length oc, .slice E7 2 k7] := hf (0, 53) (by decide) _ rfl
            have e1 : f 1 = .agg #[.int .i64 z.k, .int .i64 z.a, .int .i64 z.b, .int .i64 z.c, .int .i64 z.d] := hf (1, 54) (by decide) _ rfl
            have e2 : f 2 = .agg #[.int .i64 y2.k, .int .i64 y2.a, .int .i64 y2.b, .int .i64 y2.c, .int .i64 y2.d] := hf (2, 55) (by decide) _ rfl
            have x0 := Lib.hid i6
            have x1 := Lib.hid i7
            have x2 := Lib.hid i8
            have oo := Lib.hid i4
            have od := Lib.hid i5
            have bz := Lib.hid i0
            clear i0 i1 i2 i3 i4 i5 i6 i7 i8 ru93 ra93 rb93 p793 p893 q93 B93 O93 D93
            simp only [List.foldl_cons, List.foldl_nil, e0, e1, e2]
            clear e0 e1 e2 hf
            go_simp
            go_wp2
            (try simp only [Exit.inBlock, Exit.then])
            refine bodyPost_ret (v := .tuple #[.agg #[.int .i64 x.kind, .int .i64 x.sport, .int .i64 x.dport, .int .i64 x.seq, .int .i64 x.ack, .int .i64 x.bits, .int .i64 x.window, .int .i64 x.urgent, .int .i64 x.ty, .int .i64 x.code, .int .i64 x.rest, .bool x.nosum, .slice O os.length oc, .slice E7 2 k7], .agg #[.int .i64 z.k, .int .i64 z.a, .int .i64 z.b, .int .i64 z.c, .int .i64 z.d], .agg #[.int .i64 y2.k, .int .i64 y2.a, .int .i64 y2.b, .int .i64 y2.c, .int .i64 y2.d]]) ?_ rfl ⟨x, os, (put16 M), z, y2, O, oc, E7, k7, hos, (by simp [put16]), rfl, own_base oo.out (by omega), own_base od.out (by omega), bz.out⟩
            exact res3 Try.results25 _ _ _ _ _ _ _ _ _ rfl rfl rfl (run_loadVar_row _ _ 36 36 _ (0, 0) _ x0.out Try.underlying36 rfl info_up) (run_loadVar_row _ _ 27 27 _ (0, 0) _ x1.out Try.underlying27 rfl info_addrP) (run_loadVar_row _ _ 27 27 _ (0, 0) _ x2.out Try.underlying27 rfl info_addrP)
      · skip
        have hL2 : (ds.length : Int) ≤ 1 := by omega
        go_upto_region 11 with fail
        clear d13
        go_upto_region 11 with fail
        refine wp_region_links (by kernel_rfl) [2, 3, 4, 7, 8, 9] [3, 4, 5] 56 [(0, 53), (1, 54), (2, 55)] [some (.agg #[.int .i64 x.kind, .int .i64 x.sport, .int .i64 x.dport, .int .i64 x.seq, .int .i64 x.ack, .int .i64 x.bits, .int .i64 x.window, .int .i64 x.urgent, .int .i64 x.ty, .int .i64 x.code, .int .i64 x.rest, .bool x.nosum, .slice O os.length oc, .slice D0 ds.length d0]), some (.agg #[.int .i64 z.k, .int .i64 z.a, .int .i64 z.b, .int .i64 z.c, .int .i64 z.d]), some (.agg #[.int .i64 y2.k, .int .i64 y2.a, .int .i64 y2.b, .int .i64 y2.c, .int .i64 y2.d])] (fun m v => Below w.heap.size w v ∧ v.heap[w6.heap.size]? = some (.cells #[.int .i64 x.kind, .int .i64 x.sport, .int .i64 x.dport, .int .i64 x.seq, .int .i64 x.ack, .int .i64 x.bits, .int .i64 x.window, .int .i64 x.urgent, .int .i64 x.ty, .int .i64 x.code, .int .i64 x.rest, .bool x.nosum, .slice O os.length oc, .slice D0 ds.length d0] 36 (0, 0)) ∧ v.heap[w3.heap.size]? = some (.cells #[.int .i64 z.k, .int .i64 z.a, .int .i64 z.b, .int .i64 z.c, .int .i64 z.d] 27 (0, 0)) ∧ v.heap[w3.heap.size + 1]? = some (.cells #[.int .i64 y2.k, .int .i64 y2.a, .int .i64 y2.b, .int .i64 y2.c, .int .i64 y2.d] 27 (0, 0)) ∧ v.ownsRow (w.heap.size + 1 + 1 + 1) 5 1 (.slice O os.length oc) os.length (cellsOf os) ∧ v.ownsRow (w.heap.size + 1 + 1 + 1) 5 1 (.slice D0 (ds).length d0) (ds).length (cellsOf (ds)) ∧ v.heap[w.heap.size]? = some (if m = 0 then .cells #[.int .i64 0, .int .i64 0, .int .i64 0, .int .i64 0, .int .i64 0, .int .i64 0, .int .i64 0, .int .i64 0, .int .i64 0, .int .i64 0, .int .i64 0, .bool false, .slice none 0 0, .slice none 0 0] 36 (0, 0) else .cells #[.int .i64 x.kind, .int .i64 x.sport, .int .i64 x.dport, .int .i64 x.seq, .int .i64 x.ack, .int .i64 x.bits, .int .i64 x.window, .int .i64 x.urgent, .int .i64 x.ty, .int .i64 x.code, .int .i64 x.rest, .bool x.nosum, .slice O os.length oc, .slice D0 ds.length d0] 36 (0, 0)) ∧ v.heap[w.heap.size + 1]? = some (if m ≤ 1 then .cells #[.int .i64 0, .int .i64 0, .int .i64 0, .int .i64 0, .int .i64 0] 27 (0, 0) else .cells #[.int .i64 z.k, .int .i64 z.a, .int .i64 z.b, .int .i64 z.c, .int .i64 z.d] 27 (0, 0)) ∧ v.heap[w.heap.size + 1 + 1]? = some (if m ≤ 2 then .cells #[.int .i64 0, .int .i64 0, .int .i64 0, .int .i64 0, .int .i64 0] 27 (0, 0) else .cells #[.int .i64 y2.k, .int .i64 y2.a, .int .i64 y2.b, .int .i64 y2.c, .int .i64 y2.d] 27 (0, 0))) (by kernel_rfl) (by kernel_rfl) (by kernel_rfl) rfl ⟨⟨B12.out.os, B12.out.tape, B12.out.output, B12.out.size, B12.out.block⟩, q12.out, p712.out, p812.out, own_base O12.out (by omega), own_base D12.out (by omega), ru12.out, ra12.out, rb12.out⟩ ?_ ?_
        · intro j o ho m a' v K' hx hnd hm hI hK
          obtain ⟨i0, i1, i2, i3, i4, i5, i6, i7, i8⟩ := hI
          match j, ho with
          | 0, ho =>
            obtain rfl := Option.some.inj ho
            have h0 : a'.eval (.tmp 9) = .pointer (some ⟨w6.heap.size, 0, none⟩) := (hx 9 (by decide)).trans rfl
            exact wp_load_row 36 _ rfl w6.heap.size h0 _ _ (0, 0) _ i1 Try.underlying36 rfl info_up (hK _ _ (fun x hx => Option.some.inj hx) ⟨i0, i1, i2, i3, i4, i5, i6, i7, i8⟩)
          | 1, ho =>
            obtain rfl := Option.some.inj ho
            have h0 : a'.eval (.tmp 7) = .pointer (some ⟨w3.heap.size, 0, none⟩) := (hx 7 (by decide)).trans rfl
            exact wp_load_row 27 _ rfl w3.heap.size h0 _ _ (0, 0) _ i2 Try.underlying27 rfl info_addrP (hK _ _ (fun x hx => Option.some.inj hx) ⟨i0, i1, i2, i3, i4, i5, i6, i7, i8⟩)
          | 2, ho =>
            obtain rfl := Option.some.inj ho
            have h0 : a'.eval (.tmp 8) = .pointer (some ⟨(w3.heap.size + 1), 0, none⟩) := (hx 8 (by decide)).trans rfl
            exact wp_load_row 27 _ rfl (w3.heap.size + 1) h0 _ _ (0, 0) _ i3 Try.underlying27 rfl info_addrP (hK _ _ (fun x hx => Option.some.inj hx) ⟨i0, i1, i2, i3, i4, i5, i6, i7, i8⟩)
          | 3, ho =>
            obtain rfl := Option.some.inj ho
            obtain rfl : 0 = m := hm 0 rfl
            have h0 : a'.eval (.tmp 2) = .pointer (some ⟨w.heap.size, 0, none⟩) := (hx 2 (by decide)).trans rfl
            have h1 : a'.eval (.tmp 53) = .agg #[.int .i64 x.kind, .int .i64 x.sport, .int .i64 x.dport, .int .i64 x.seq, .int .i64 x.ack, .int .i64 x.bits, .int .i64 x.window, .int .i64 x.urgent, .int .i64 x.ty, .int .i64 x.code, .int .i64 x.rest, .bool x.nosum, .slice O os.length oc, .slice D0 ds.length d0] := links_of hnd 0 53 _ (by kernel_rfl) rfl
            exact wp_store_row 36 _ _ rfl w.heap.size _ h0 h1 _ _ i6 info_up rfl (by simp [Value.oneCell']) (hK _ _ (fun x hx => by cases hx) ⟨K.setRow_below i0 (by omega) _, (setRow_other _ _ _ _ (by omega)).trans i1, (setRow_other _ _ _ _ (by omega)).trans i2, (setRow_other _ _ _ _ (by omega)).trans i3, K.setRow_own _ i4 (by omega), K.setRow_own _ i5 (by omega), setRow_heap _ _ _ _ _ _ i6, (setRow_other _ _ _ _ (by omega)).trans i7, (setRow_other _ _ _ _ (by omega)).trans i8⟩)
          | 4, ho =>
            obtain rfl := Option.some.inj ho
            obtain rfl : 1 = m := hm 1 rfl
            have h0 : a'.eval (.tmp 3) = .pointer (some ⟨(w.heap.size + 1), 0, none⟩) := (hx 3 (by decide)).trans rfl
            have h1 : a'.eval (.tmp 54) = .agg #[.int .i64 z.k, .int .i64 z.a, .int .i64 z.b, .int .i64 z.c, .int .i64 z.d] := links_of hnd 1 54 _ (by kernel_rfl) rfl
            exact wp_store_row 27 _ _ rfl (w.heap.size + 1) _ h0 h1 _ _ i7 info_addrP rfl (by simp [Value.oneCell']) (hK _ _ (fun x hx => by cases hx) ⟨K.setRow_below i0 (by omega) _, (setRow_other _ _ _ _ (by omega)).trans i1, (setRow_other _ _ _ _ (by omega)).trans i2, (setRow_other _ _ _ _ (by omega)).trans i3, K.setRow_own _ i4 (by omega), K.setRow_own _ i5 (by omega), (setRow_other _ _ _ _ (by omega)).trans i6, setRow_heap _ _ _ _ _ _ i7, (setRow_other _ _ _ _ (by omega)).trans i8⟩)
          | 5, ho =>
            obtain rfl := Option.some.inj ho
            obtain rfl : 2 = m := hm 2 rfl
            have h0 : a'.eval (.tmp 4) = .pointer (some ⟨(w.heap.size + 1 + 1), 0, none⟩) := (hx 4 (by decide)).trans rfl
            have h1 : a'.eval (.tmp 55) = .agg #[.int .i64 y2.k, .int .i64 y2.a, .int .i64 y2.b, .int .i64 y2.c, .int .i64 y2.d] := links_of hnd 2 55 _ (by kernel_rfl) rfl
            exact wp_store_row 27 _ _ rfl (w.heap.size + 1 + 1) _ h0 h1 _ _ i8 info_addrP rfl (by simp [Value.oneCell']) (hK _ _ (fun x hx => by cases hx) ⟨K.setRow_below i0 (by omega) _, (setRow_other _ _ _ _ (by omega)).trans i1, (setRow_other _ _ _ _ (by omega)).trans i2, (setRow_other _ _ _ _ (by omega)).trans i3, K.setRow_own _ i4 (by omega), K.setRow_own _ i5 (by omega), (setRow_other _ _ _ _ (by omega)).trans i6, (setRow_other _ _ _ _ (by omega)).trans i7, setRow_heap _ _ _ _ _ _ i8⟩)
          | j + 6, ho => simp at ho
        · intro f v hf hI
          obtain ⟨i0, i1, i2, i3, i4, i5, i6, i7, i8⟩ := hI
          have e0 : f 0 = .agg #[.int .i64 x.kind, .int .i64 x.sport, .int .i64 x.dport, .int .i64 x.seq, .int .i64 x.ack, .int .i64 x.bits, .int .i64 x.window, .int .i64 x.urgent, .int .i64 x.ty, .int .i64 x.code, .int .i64 x.rest, .bool x.nosum, .slice O os.length oc, .slice D0 ds.length d0] := hf (0, 53) (by decide) _ rfl
          have e1 : f 1 = .agg #[.int .i64 z.k, .int .i64 z.a, .int .i64 z.b, .int .i64 z.c, .int .i64 z.d] := hf (1, 54) (by decide) _ rfl
          have e2 : f 2 = .agg #[.int .i64 y2.k, .int .i64 y2.a, .int .i64 y2.b, .int .i64 y2.c, .int .i64 y2.d] := hf (2, 55) (by decide) _ rfl
          have x0 := Lib.hid i6
          have x1 := Lib.hid i7
          have x2 := Lib.hid i8
          have oo := Lib.hid i4
          have od := Lib.hid i5
          have bz := Lib.hid i0
          clear i0 i1 i2 i3 i4 i5 i6 i7 i8 ru12 ra12 rb12 p712 p812 q12 C12 B12 O12 D12
          simp only [List.foldl_cons, List.foldl_nil, e0, e1, e2]
          clear e0 e1 e2 hf
          go_simp
          go_wp2
          (try simp only [Exit.inBlock, Exit.then])
          refine bodyPost_ret (v := .tuple #[.agg #[.int .i64 x.kind, .int .i64 x.sport, .int .i64 x.dport, .int .i64 x.seq, .int .i64 x.ack, .int .i64 x.bits, .int .i64 x.window, .int .i64 x.urgent, .int .i64 x.ty, .int .i64 x.code, .int .i64 x.rest, .bool x.nosum, .slice O os.length oc, .slice D0 ds.length d0], .agg #[.int .i64 z.k, .int .i64 z.a, .int .i64 z.b, .int .i64 z.c, .int .i64 z.d], .agg #[.int .i64 y2.k, .int .i64 y2.a, .int .i64 y2.b, .int .i64 y2.c, .int .i64 y2.d]]) ?_ rfl ⟨x, os, ds, z, y2, O, oc, D0, d0, hos, hds, rfl, own_base oo.out (by omega), own_base od.out (by omega), bz.out⟩
          exact res3 Try.results25 _ _ _ _ _ _ _ _ _ rfl rfl rfl (run_loadVar_row _ _ 36 36 _ (0, 0) _ x0.out Try.underlying36 rfl info_up) (run_loadVar_row _ _ 27 27 _ (0, 0) _ x1.out Try.underlying27 rfl info_addrP) (run_loadVar_row _ _ 27 27 _ (0, 0) _ x2.out Try.underlying27 rfl info_addrP)
end Go.Proofs.Ythogonpjkngpjaa
