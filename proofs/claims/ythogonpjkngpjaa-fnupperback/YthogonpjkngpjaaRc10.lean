/-
  The model's draw of an upper layer with its addresses.
-/
import Derived.Test.YthogonpjkngpjaaRc08
import Derived.Test.YthogonpjkngpjaaRc09
import Derived.Deep.Cut
namespace Go.Proofs.Ythogonpjkngpjaa
set_option maxRecDepth 100000
open Go.RowKit
theorem res3B {fn : Func} {p q r : Tmp} {tp tq tr : TypeId} (h : fn.results = #[.cell p tp, .cell q tq, .cell r tr]) (tmps : Array Value) (P : Program) (w : World) (i j k : Nat) (cp cq cr : Array Value)
    (hp : tmps.getD p undef = .pointer (some ⟨i, 0, none⟩)) (hq : tmps.getD q undef = .pointer (some ⟨j, 0, none⟩)) (hr : tmps.getD r undef = .pointer (some ⟨k, 0, none⟩))
    (lp : (loadVar tp ⟨i, 0, none⟩).run P w = .ok (.agg cp) w) (lq : (loadVar tq ⟨j, 0, none⟩).run P w = .ok (.agg cq) w) (lr : (loadVar tr ⟨k, 0, none⟩).run P w = .ok (.agg cr) w) :
    (results fn tmps).run P w = .ok (.tuple #[.agg cp, .agg cq, .agg cr]) w := by
  have hp' : tmps[p]?.getD undef = .pointer (some ⟨i, 0, none⟩) := by simpa using hp
  have hq' : tmps[q]?.getD undef = .pointer (some ⟨j, 0, none⟩) := by simpa using hq
  have hr' : tmps[r]?.getD undef = .pointer (some ⟨k, 0, none⟩) := by simpa using hr
  simp [results, h, hp', hq', hr', asAddr, lp, lq, lr]
theorem storeAdB {ops : Array Oper} {rest : List Oper} {o : Oper} {a : Act} {w : World} {Q : Exit → Act → World → Prop} (hgd : o.guard = none) (x y : Operand) (ho : o.op = .store 27 x y) (g : Nat) {n0 n1 n2 n3 n4 : Int} (hx : a.eval x = .pointer (some ⟨g, 0, none⟩)) (hy : a.eval y = .agg #[.int .i64 n0, .int .i64 n1, .int .i64 n2, .int .i64 n3, .int .i64 n4]) {t : TypeId} {u0 u1 u2 u3 u4 : Value}
    (hg : w.heap[g]? = some (.cells #[u0, u1, u2, u3, u4] t (0, 0))) (h : wpList Try.prog ops Q rest (a.put o.dst undef) (w.setRow g #[.int .i64 n0, .int .i64 n1, .int .i64 n2, .int .i64 n3, .int .i64 n4])) : wpList Try.prog ops Q (o :: rest) a w :=
  wpList_store_row hgd 27 x y ho g _ hx hy t _ hg info_addrP rfl (by simp [Value.oneCell']) h
def DUBOut (x : Uh) (os ds : List UInt8) (s t : Ad) (P Q : Nat) (w : World) (e : Ending) (w' : World) : Prop :=
  ∃ (A : Option Addr) (c : Nat) (D : Option Addr) (d : Nat), e = .returned (.tuple #[.agg #[.int .i64 x.kind, .int .i64 x.sport, .int .i64 x.dport, .int .i64 x.seq, .int .i64 x.ack, .int .i64 x.bits, .int .i64 x.window, .int .i64 x.urgent, .int .i64 x.ty, .int .i64 x.code, .int .i64 x.rest, .bool x.nosum, .slice A P c, .slice D Q d], .agg #[.int .i64 s.k, .int .i64 s.a, .int .i64 s.b, .int .i64 s.c, .int .i64 s.d], .agg #[.int .i64 t.k, .int .i64 t.a, .int .i64 t.b, .int .i64 t.c, .int .i64 t.d]]) ∧
    w'.ownsRow w.heap.size 5 1 (.slice A P c) P (cellsOf os) ∧ w'.ownsRow w.heap.size 5 1 (.slice D Q d) Q (cellsOf ds) ∧ Below w.heap.size w w'
set_option maxHeartbeats 16000000 in
theorem drawUB (bs : List UInt8) (hbl : bs.length ≤ 1048576) : ∃ (x : Uh) (os ds : List UInt8) (s t : Ad), os.length ≤ 45 ∧ ds.length ≤ 1500 ∧ ∀ (w : World) (A : Option Addr) (n c : Nat), RB w w.heap.size A bs → bs.length = n → Calls Try.prog 28 #[.slice A n c] w (DUBOut x os ds s t os.length ds.length w) := by
  obtain ⟨k, s1, hkk, hd1⟩ := kindE bs 0 (71 + bs.length % 1000) (by omega)
  have H1 := Lib.hid hd1
  clear hd1
  obtain ⟨y1, t2, s2, ht2, hd2⟩ := addrKE bs (0 + 1) s1 k hkk (by omega)
  have H2 := Lib.hid hd2
  clear hd2
  obtain ⟨y2, t3, s3, ht3, hd3⟩ := addrKE bs t2 s2 k hkk (by omega)
  have H3 := Lib.hid hd3
  clear hd3
  obtain ⟨o1, s4, hd4⟩ := onceE bs t3 s3 9 (by omega) (by omega) (by omega)
  have H4 := Lib.hid hd4
  clear hd4
  cases o1 with
  | false =>
    obtain ⟨v1, sv, lov, upv, hdv⟩ := pickE bs (t3 + 1) s4 4 (by omega) (by omega) (by omega)
    have HV := Lib.hid hdv
    clear hdv
    obtain ⟨x, os, ds, t6, s6, hos, hds, ht6, hdu⟩ := badUpE v1 k (by omega) hkk bs (t3 + 1 + 1) sv (by omega) hbl
    have HU := Lib.hid hdu
    clear hdu
    refine ⟨x, os, ds, y1, y2, hos, hds, fun w A n c hr hl => ?_⟩
    have hbl2 : n ≤ 1048576 := by omega
    have ru0 : Hid ((((w.alloc (.cells #[.int .i64 0, .int .i64 0, .int .i64 0, .int .i64 0, .int .i64 0, .int .i64 0, .int .i64 0, .int .i64 0, .int .i64 0, .int .i64 0, .int .i64 0, .bool false, .slice none 0 0, .slice none 0 0] 36)).alloc (.cells #[.int .i64 0, .int .i64 0, .int .i64 0, .int .i64 0, .int .i64 0] 27)).alloc (.cells #[.int .i64 0, .int .i64 0, .int .i64 0, .int .i64 0, .int .i64 0] 27)).heap[w.heap.size]? = some (.cells #[.int .i64 0, .int .i64 0, .int .i64 0, .int .i64 0, .int .i64 0, .int .i64 0, .int .i64 0, .int .i64 0, .int .i64 0, .int .i64 0, .int .i64 0, .bool false, .slice none 0 0, .slice none 0 0] 36)) := Lib.hid (by repeat (first | exact K.newAt (by first | rfl | (simp; done)) | refine K.oldAt (by first | (simp; done) | (simp; omega)) ?_))
    have ra0 : Hid ((((w.alloc (.cells #[.int .i64 0, .int .i64 0, .int .i64 0, .int .i64 0, .int .i64 0, .int .i64 0, .int .i64 0, .int .i64 0, .int .i64 0, .int .i64 0, .int .i64 0, .bool false, .slice none 0 0, .slice none 0 0] 36)).alloc (.cells #[.int .i64 0, .int .i64 0, .int .i64 0, .int .i64 0, .int .i64 0] 27)).alloc (.cells #[.int .i64 0, .int .i64 0, .int .i64 0, .int .i64 0, .int .i64 0] 27)).heap[w.heap.size + 1]? = some (.cells #[.int .i64 0, .int .i64 0, .int .i64 0, .int .i64 0, .int .i64 0] 27)) := Lib.hid (K.old (show ((w.alloc (.cells #[.int .i64 0, .int .i64 0, .int .i64 0, .int .i64 0, .int .i64 0, .int .i64 0, .int .i64 0, .int .i64 0, .int .i64 0, .int .i64 0, .int .i64 0, .bool false, .slice none 0 0, .slice none 0 0] 36)).alloc (.cells #[.int .i64 0, .int .i64 0, .int .i64 0, .int .i64 0, .int .i64 0] 27)).heap[w.heap.size + 1]? = some (.cells #[.int .i64 0, .int .i64 0, .int .i64 0, .int .i64 0, .int .i64 0] 27) from K.newAt (by simp)) _)
    have rb0 : Hid ((((w.alloc (.cells #[.int .i64 0, .int .i64 0, .int .i64 0, .int .i64 0, .int .i64 0, .int .i64 0, .int .i64 0, .int .i64 0, .int .i64 0, .int .i64 0, .int .i64 0, .bool false, .slice none 0 0, .slice none 0 0] 36)).alloc (.cells #[.int .i64 0, .int .i64 0, .int .i64 0, .int .i64 0, .int .i64 0] 27)).alloc (.cells #[.int .i64 0, .int .i64 0, .int .i64 0, .int .i64 0, .int .i64 0] 27)).heap[w.heap.size + 1 + 1]? = some (.cells #[.int .i64 0, .int .i64 0, .int .i64 0, .int .i64 0, .int .i64 0] 27)) := Lib.hid (K.newAt (by simp))
    have B0 : Hid (Below w.heap.size w (((w.alloc (.cells #[.int .i64 0, .int .i64 0, .int .i64 0, .int .i64 0, .int .i64 0, .int .i64 0, .int .i64 0, .int .i64 0, .int .i64 0, .int .i64 0, .int .i64 0, .bool false, .slice none 0 0, .slice none 0 0] 36)).alloc (.cells #[.int .i64 0, .int .i64 0, .int .i64 0, .int .i64 0, .int .i64 0] 27)).alloc (.cells #[.int .i64 0, .int .i64 0, .int .i64 0, .int .i64 0, .int .i64 0] 27))) := Lib.hid (by go_grown)
    have RD := Lib.hid hr
    have HL := Lib.hid hl
    have e1 : (((w.alloc (.cells #[.int .i64 0, .int .i64 0, .int .i64 0, .int .i64 0, .int .i64 0, .int .i64 0, .int .i64 0, .int .i64 0, .int .i64 0, .int .i64 0, .int .i64 0, .bool false, .slice none 0 0, .slice none 0 0] 36)).alloc (.cells #[.int .i64 0, .int .i64 0, .int .i64 0, .int .i64 0, .int .i64 0] 27)).alloc (.cells #[.int .i64 0, .int .i64 0, .int .i64 0, .int .i64 0, .int .i64 0] 27)).heap.size = w.heap.size + 1 + 1 + 1 := by simp
    clear hr hl
    go_enter Try.func28, Try.ntmps28
    go_wp2_with fail
    refine (openD A n c bs _ ((RD.out.below B0.out).more B0.out.size) HL.out hbl2).mono ?_
    rintro e w1 ⟨rfl, c1, b1⟩
    rw [e1] at c1
    rw [e1]
    have ru1 := Lib.hid (K.below b1 ru0.out)
    have ra1 := Lib.hid (K.below b1 ra0.out)
    have rb1 := Lib.hid (K.below b1 rb0.out)
    have B1 := Lib.hid (bthen B0.out b1)
    have C1 := Lib.hid c1
    clear b1 c1 e1 ru0 ra0 rb0 B0
    go_wp2_with fail
    refine Calls.mono (H1.out _ (w.heap.size + 1 + 1 + 1) A c C1.out) ?_
    rintro e w2 ⟨rfl, hc2, hg2⟩
    have ru2 := Lib.hid (K.kept hg2 ru1.out (fun k hk => by cases hk; omega))
    have ra2 := Lib.hid (K.kept hg2 ra1.out (fun k hk => by cases hk; omega))
    have rb2 := Lib.hid (K.kept hg2 rb1.out (fun k hk => by cases hk; omega))
    have C2 := Lib.hid hc2
    have B2 := Lib.hid (bgrown B1.out hg2 (fun k hk => by cases hk; omega))
    clear hc2 hg2 ru1 ra1 rb1 C1 B1
    go_wp2_with fail
    refine Calls.mono (H2.out _ (w.heap.size + 1 + 1 + 1) A c C2.out) ?_
    rintro e w11 ⟨rfl, hc2, hg2⟩
    have ru3 := Lib.hid (K.kept hg2 ru2.out (fun k hk => by cases hk; omega))
    have ra3 := Lib.hid (K.kept hg2 ra2.out (fun k hk => by cases hk; omega))
    have rb3 := Lib.hid (K.kept hg2 rb2.out (fun k hk => by cases hk; omega))
    have C3 := Lib.hid hc2
    have B3 := Lib.hid (bgrown B2.out hg2 (fun k hk => by cases hk; omega))
    clear hc2 hg2 ru2 ra2 rb2 C2 B2
    go_wp2_with fail
    refine Calls.mono (H3.out _ (w.heap.size + 1 + 1 + 1) A c C3.out) ?_
    rintro e w3 ⟨rfl, hc2, hg2⟩
    have ru4 := Lib.hid (K.kept hg2 ru3.out (fun k hk => by cases hk; omega))
    have ra4 := Lib.hid (K.kept hg2 ra3.out (fun k hk => by cases hk; omega))
    have rb4 := Lib.hid (K.kept hg2 rb3.out (fun k hk => by cases hk; omega))
    have C4 := Lib.hid hc2
    have B4 := Lib.hid (bgrown B3.out hg2 (fun k hk => by cases hk; omega))
    clear hc2 hg2 ru3 ra3 rb3 C3 B3
    have ru5 := Lib.hid (K.old (K.old ru4.out (.cells #[.int .i64 y1.k, .int .i64 y1.a, .int .i64 y1.b, .int .i64 y1.c, .int .i64 y1.d] 27)) (.cells #[.int .i64 y2.k, .int .i64 y2.a, .int .i64 y2.b, .int .i64 y2.c, .int .i64 y2.d] 27))
    have ra5 := Lib.hid (K.old (K.old ra4.out (.cells #[.int .i64 y1.k, .int .i64 y1.a, .int .i64 y1.b, .int .i64 y1.c, .int .i64 y1.d] 27)) (.cells #[.int .i64 y2.k, .int .i64 y2.a, .int .i64 y2.b, .int .i64 y2.c, .int .i64 y2.d] 27))
    have rb5 := Lib.hid (K.old (K.old rb4.out (.cells #[.int .i64 y1.k, .int .i64 y1.a, .int .i64 y1.b, .int .i64 y1.c, .int .i64 y1.d] 27)) (.cells #[.int .i64 y2.k, .int .i64 y2.a, .int .i64 y2.b, .int .i64 y2.c, .int .i64 y2.d] 27))
    have C5 := Lib.hid (C4.out.below (Joins.below_alloc2 w3 (.cells #[.int .i64 y1.k, .int .i64 y1.a, .int .i64 y1.b, .int .i64 y1.c, .int .i64 y1.d] 27) (.cells #[.int .i64 y2.k, .int .i64 y2.a, .int .i64 y2.b, .int .i64 y2.c, .int .i64 y2.d] 27)))
    have B5 := Lib.hid (bthen B4.out (Joins.below_alloc2 w3 (.cells #[.int .i64 y1.k, .int .i64 y1.a, .int .i64 y1.b, .int .i64 y1.c, .int .i64 y1.d] 27) (.cells #[.int .i64 y2.k, .int .i64 y2.a, .int .i64 y2.b, .int .i64 y2.c, .int .i64 y2.d] 27)))
    have p75 : Hid (((w3.alloc (.cells #[.int .i64 y1.k, .int .i64 y1.a, .int .i64 y1.b, .int .i64 y1.c, .int .i64 y1.d] 27)).alloc (.cells #[.int .i64 y2.k, .int .i64 y2.a, .int .i64 y2.b, .int .i64 y2.c, .int .i64 y2.d] 27)).heap[w3.heap.size]? = some (.cells #[.int .i64 y1.k, .int .i64 y1.a, .int .i64 y1.b, .int .i64 y1.c, .int .i64 y1.d] 27)) := Lib.hid (by repeat (first | exact K.newAt (by first | rfl | (simp; done)) | refine K.oldAt (by first | (simp; done) | (simp; omega)) ?_))
    have p85 : Hid (((w3.alloc (.cells #[.int .i64 y1.k, .int .i64 y1.a, .int .i64 y1.b, .int .i64 y1.c, .int .i64 y1.d] 27)).alloc (.cells #[.int .i64 y2.k, .int .i64 y2.a, .int .i64 y2.b, .int .i64 y2.c, .int .i64 y2.d] 27)).heap[w3.heap.size + 1]? = some (.cells #[.int .i64 y2.k, .int .i64 y2.a, .int .i64 y2.b, .int .i64 y2.c, .int .i64 y2.d] 27)) := Lib.hid (by repeat (first | exact K.newAt (by first | rfl | (simp; done)) | refine K.oldAt (by first | (simp; done) | (simp; omega)) ?_))
    have l3 : w.heap.size + 1 + 1 + 1 < w3.heap.size := C4.out.lt
    clear ru4 ra4 rb4 C4 B4
    go_wp2_with fail
    generalize ((w3.alloc (.cells #[.int .i64 y1.k, .int .i64 y1.a, .int .i64 y1.b, .int .i64 y1.c, .int .i64 y1.d] 27)).alloc (.cells #[.int .i64 y2.k, .int .i64 y2.a, .int .i64 y2.b, .int .i64 y2.c, .int .i64 y2.d] 27)) = w4 at ru5 ra5 rb5 p75 p85 C5 B5 ⊢
    refine Calls.mono (H4.out _ (w.heap.size + 1 + 1 + 1) A c C5.out) ?_
    rintro e w20 ⟨rfl, hc2, hg2⟩
    have ru6 := Lib.hid (K.kept hg2 ru5.out (fun k hk => by cases hk; omega))
    have ra6 := Lib.hid (K.kept hg2 ra5.out (fun k hk => by cases hk; omega))
    have rb6 := Lib.hid (K.kept hg2 rb5.out (fun k hk => by cases hk; omega))
    have p76 := Lib.hid (K.kept hg2 p75.out (fun k hk => by cases hk; omega))
    have p86 := Lib.hid (K.kept hg2 p85.out (fun k hk => by cases hk; omega))
    have C6 := Lib.hid hc2
    have B6 := Lib.hid (bgrown B5.out hg2 (fun k hk => by cases hk; omega))
    clear hc2 hg2 ru5 ra5 rb5 p75 p85 C5 B5
    go_wp2_with fail
    refine Calls.mono (HV.out _ (w.heap.size + 1 + 1 + 1) A c C6.out) ?_
    rintro e w5 ⟨rfl, hc2, hg2⟩
    have ru7 := Lib.hid (K.kept hg2 ru6.out (fun k hk => by cases hk; omega))
    have ra7 := Lib.hid (K.kept hg2 ra6.out (fun k hk => by cases hk; omega))
    have rb7 := Lib.hid (K.kept hg2 rb6.out (fun k hk => by cases hk; omega))
    have p77 := Lib.hid (K.kept hg2 p76.out (fun k hk => by cases hk; omega))
    have p87 := Lib.hid (K.kept hg2 p86.out (fun k hk => by cases hk; omega))
    have C7 := Lib.hid hc2
    have B7 := Lib.hid (bgrown B6.out hg2 (fun k hk => by cases hk; omega))
    clear hc2 hg2 ru6 ra6 rb6 p76 p86 C6 B6
    go_wp2_with fail
    have l5 := K.lt p87.out
    have lC5 := C7.out.lt
    refine Calls.mono (HU.out _ (w.heap.size + 1 + 1 + 1) A c C7.out) ?_
    rintro e w6 ⟨O, oc, D0, d0, rfl, oo, od, ap, hc2, hg2⟩
    have ru8 := Lib.hid (K.kept hg2 ru7.out (fun k hk => by cases hk; omega))
    have ra8 := Lib.hid (K.kept hg2 ra7.out (fun k hk => by cases hk; omega))
    have rb8 := Lib.hid (K.kept hg2 rb7.out (fun k hk => by cases hk; omega))
    have p78 := Lib.hid (K.kept hg2 p77.out (fun k hk => by cases hk; omega))
    have p88 := Lib.hid (K.kept hg2 p87.out (fun k hk => by cases hk; omega))
    have C8 := Lib.hid hc2
    have B8 := Lib.hid (bgrown B7.out hg2 (fun k hk => by cases hk; omega))
    clear hc2  ru7 ra7 rb7 p77 p87 C7 B7
    have ru9 := Lib.hid (K.old ru8.out (.cells #[.int .i64 x.kind, .int .i64 x.sport, .int .i64 x.dport, .int .i64 x.seq, .int .i64 x.ack, .int .i64 x.bits, .int .i64 x.window, .int .i64 x.urgent, .int .i64 x.ty, .int .i64 x.code, .int .i64 x.rest, .bool x.nosum, .slice O os.length oc, .slice D0 ds.length d0] 36))
    have ra9 := Lib.hid (K.old ra8.out (.cells #[.int .i64 x.kind, .int .i64 x.sport, .int .i64 x.dport, .int .i64 x.seq, .int .i64 x.ack, .int .i64 x.bits, .int .i64 x.window, .int .i64 x.urgent, .int .i64 x.ty, .int .i64 x.code, .int .i64 x.rest, .bool x.nosum, .slice O os.length oc, .slice D0 ds.length d0] 36))
    have rb9 := Lib.hid (K.old rb8.out (.cells #[.int .i64 x.kind, .int .i64 x.sport, .int .i64 x.dport, .int .i64 x.seq, .int .i64 x.ack, .int .i64 x.bits, .int .i64 x.window, .int .i64 x.urgent, .int .i64 x.ty, .int .i64 x.code, .int .i64 x.rest, .bool x.nosum, .slice O os.length oc, .slice D0 ds.length d0] 36))
    have p79 := Lib.hid (K.old p78.out (.cells #[.int .i64 x.kind, .int .i64 x.sport, .int .i64 x.dport, .int .i64 x.seq, .int .i64 x.ack, .int .i64 x.bits, .int .i64 x.window, .int .i64 x.urgent, .int .i64 x.ty, .int .i64 x.code, .int .i64 x.rest, .bool x.nosum, .slice O os.length oc, .slice D0 ds.length d0] 36))
    have p89 := Lib.hid (K.old p88.out (.cells #[.int .i64 x.kind, .int .i64 x.sport, .int .i64 x.dport, .int .i64 x.seq, .int .i64 x.ack, .int .i64 x.bits, .int .i64 x.window, .int .i64 x.urgent, .int .i64 x.ty, .int .i64 x.code, .int .i64 x.rest, .bool x.nosum, .slice O os.length oc, .slice D0 ds.length d0] 36))
    have B9 := Lib.hid (bthen B8.out (Joins.below_alloc1 w6 (.cells #[.int .i64 x.kind, .int .i64 x.sport, .int .i64 x.dport, .int .i64 x.seq, .int .i64 x.ack, .int .i64 x.bits, .int .i64 x.window, .int .i64 x.urgent, .int .i64 x.ty, .int .i64 x.code, .int .i64 x.rest, .bool x.nosum, .slice O os.length oc, .slice D0 ds.length d0] 36)))
    have q9 := Lib.hid (K.new w6 (.cells #[.int .i64 x.kind, .int .i64 x.sport, .int .i64 x.dport, .int .i64 x.seq, .int .i64 x.ack, .int .i64 x.bits, .int .i64 x.window, .int .i64 x.urgent, .int .i64 x.ty, .int .i64 x.code, .int .i64 x.rest, .bool x.nosum, .slice O os.length oc, .slice D0 ds.length d0] 36))
    have O9 := Lib.hid (World.ownsRow.alloc oo (.cells #[.int .i64 x.kind, .int .i64 x.sport, .int .i64 x.dport, .int .i64 x.seq, .int .i64 x.ack, .int .i64 x.bits, .int .i64 x.window, .int .i64 x.urgent, .int .i64 x.ty, .int .i64 x.code, .int .i64 x.rest, .bool x.nosum, .slice O os.length oc, .slice D0 ds.length d0] 36))
    have D9 := Lib.hid (World.ownsRow.alloc od (.cells #[.int .i64 x.kind, .int .i64 x.sport, .int .i64 x.dport, .int .i64 x.seq, .int .i64 x.ack, .int .i64 x.bits, .int .i64 x.window, .int .i64 x.urgent, .int .i64 x.ty, .int .i64 x.code, .int .i64 x.rest, .bool x.nosum, .slice O os.length oc, .slice D0 ds.length d0] 36))
    have l6 : w5.heap.size ≤ w6.heap.size := hg2.size
    clear oo od ap hg2 ru8 ra8 rb8 p78 p88 C8 B8
    go_upto_region 7 with (with_reducible refine storeNewU rfl _ _ rfl rfl rfl ?_)
    generalize w6.alloc (.cells #[.int .i64 x.kind, .int .i64 x.sport, .int .i64 x.dport, .int .i64 x.seq, .int .i64 x.ack, .int .i64 x.bits, .int .i64 x.window, .int .i64 x.urgent, .int .i64 x.ty, .int .i64 x.code, .int .i64 x.rest, .bool x.nosum, .slice O os.length oc, .slice D0 ds.length d0] 36) = w7 at ru9 ra9 rb9 p79 p89 q9 B9 O9 D9 ⊢
    go_upto_region 7 with fail
    refine wp_region_links (by kernel_rfl) [2, 3, 4, 7, 8, 9] [3, 4, 5] 32 [(0, 29), (1, 30), (2, 31)] [some (.agg #[.int .i64 x.kind, .int .i64 x.sport, .int .i64 x.dport, .int .i64 x.seq, .int .i64 x.ack, .int .i64 x.bits, .int .i64 x.window, .int .i64 x.urgent, .int .i64 x.ty, .int .i64 x.code, .int .i64 x.rest, .bool x.nosum, .slice O os.length oc, .slice D0 ds.length d0]), some (.agg #[.int .i64 y1.k, .int .i64 y1.a, .int .i64 y1.b, .int .i64 y1.c, .int .i64 y1.d]), some (.agg #[.int .i64 y2.k, .int .i64 y2.a, .int .i64 y2.b, .int .i64 y2.c, .int .i64 y2.d])] (fun m v => Below w.heap.size w v ∧ v.heap[w6.heap.size]? = some (.cells #[.int .i64 x.kind, .int .i64 x.sport, .int .i64 x.dport, .int .i64 x.seq, .int .i64 x.ack, .int .i64 x.bits, .int .i64 x.window, .int .i64 x.urgent, .int .i64 x.ty, .int .i64 x.code, .int .i64 x.rest, .bool x.nosum, .slice O os.length oc, .slice D0 ds.length d0] 36 (0, 0)) ∧ v.heap[w3.heap.size]? = some (.cells #[.int .i64 y1.k, .int .i64 y1.a, .int .i64 y1.b, .int .i64 y1.c, .int .i64 y1.d] 27 (0, 0)) ∧ v.heap[w3.heap.size + 1]? = some (.cells #[.int .i64 y2.k, .int .i64 y2.a, .int .i64 y2.b, .int .i64 y2.c, .int .i64 y2.d] 27 (0, 0)) ∧ v.ownsRow (w.heap.size + 1 + 1 + 1) 5 1 (.slice O os.length oc) os.length (cellsOf os) ∧ v.ownsRow (w.heap.size + 1 + 1 + 1) 5 1 (.slice D0 (ds).length d0) (ds).length (cellsOf (ds)) ∧ v.heap[w.heap.size]? = some (if m = 0 then .cells #[.int .i64 0, .int .i64 0, .int .i64 0, .int .i64 0, .int .i64 0, .int .i64 0, .int .i64 0, .int .i64 0, .int .i64 0, .int .i64 0, .int .i64 0, .bool false, .slice none 0 0, .slice none 0 0] 36 (0, 0) else .cells #[.int .i64 x.kind, .int .i64 x.sport, .int .i64 x.dport, .int .i64 x.seq, .int .i64 x.ack, .int .i64 x.bits, .int .i64 x.window, .int .i64 x.urgent, .int .i64 x.ty, .int .i64 x.code, .int .i64 x.rest, .bool x.nosum, .slice O os.length oc, .slice D0 ds.length d0] 36 (0, 0)) ∧ v.heap[w.heap.size + 1]? = some (if m ≤ 1 then .cells #[.int .i64 0, .int .i64 0, .int .i64 0, .int .i64 0, .int .i64 0] 27 (0, 0) else .cells #[.int .i64 y1.k, .int .i64 y1.a, .int .i64 y1.b, .int .i64 y1.c, .int .i64 y1.d] 27 (0, 0)) ∧ v.heap[w.heap.size + 1 + 1]? = some (if m ≤ 2 then .cells #[.int .i64 0, .int .i64 0, .int .i64 0, .int .i64 0, .int .i64 0] 27 (0, 0) else .cells #[.int .i64 y2.k, .int .i64 y2.a, .int .i64 y2.b, .int .i64 y2.c, .int .i64 y2.d] 27 (0, 0))) (by kernel_rfl) (by kernel_rfl) (by kernel_rfl) rfl ⟨⟨B9.out.os, B9.out.tape, B9.out.output, B9.out.size, B9.out.block⟩, q9.out, p79.out, p89.out, own_base O9.out (by omega), own_base D9.out (by omega), ru9.out, ra9.out, rb9.out⟩ ?_ ?_
    · intro j o ho m a' v K' hx hnd hm hI hK
      obtain ⟨i0, i1, i2, i3, i4, i5, i6, i7, i8⟩ := hI
      match j, ho with
      | 0, ho =>
        obtain rfl := Option.some.inj ho
        have h0 : a'.eval (.tmp 9) = .pointer (some ⟨w6.heap.size, 0, none⟩) := (hx 9 (by decide)).trans rfl
        exact wp_load_row 36 _ rfl w6.heap.size h0 _ _ (0, 0) _ i1 Try.underlying36 rfl info_up (hK _ _ (fun x hx => Option.some.inj hx) ⟨i0, i1, i2, i3, i4, i5, i6, i7, i8⟩)
      | 1, ho =>
        obtain rfl := Option.some.inj ho
        have h0 : a'.eval (.tmp 7) = .pointer (some ⟨w3.heap.size, 0, none⟩) := (hx 7 (by decide)).trans rfl
        exact wp_load_row 27 _ rfl w3.heap.size h0 _ _ (0, 0) _ i2 Try.underlying27 rfl info_addrP (hK _ _ (fun x hx => Option.some.inj hx) ⟨i0, i1, i2, i3, i4, i5, i6, i7, i8⟩)
      | 2, ho =>
        obtain rfl := Option.some.inj ho
        have h0 : a'.eval (.tmp 8) = .pointer (some ⟨(w3.heap.size + 1), 0, none⟩) := (hx 8 (by decide)).trans rfl
        exact wp_load_row 27 _ rfl (w3.heap.size + 1) h0 _ _ (0, 0) _ i3 Try.underlying27 rfl info_addrP (hK _ _ (fun x hx => Option.some.inj hx) ⟨i0, i1, i2, i3, i4, i5, i6, i7, i8⟩)
      | 3, ho =>
        obtain rfl := Option.some.inj ho
        obtain rfl : 0 = m := hm 0 rfl
        have h0 : a'.eval (.tmp 2) = .pointer (some ⟨w.heap.size, 0, none⟩) := (hx 2 (by decide)).trans rfl
        have h1 : a'.eval (.tmp 29) = .agg #[.int .i64 x.kind, .int .i64 x.sport, .int .i64 x.dport, .int .i64 x.seq, .int .i64 x.ack, .int .i64 x.bits, .int .i64 x.window, .int .i64 x.urgent, .int .i64 x.ty, .int .i64 x.code, .int .i64 x.rest, .bool x.nosum, .slice O os.length oc, .slice D0 ds.length d0] := links_of hnd 0 29 _ (by kernel_rfl) rfl
        exact wp_store_row 36 _ _ rfl w.heap.size _ h0 h1 _ _ i6 info_up rfl (by simp [Value.oneCell']) (hK _ _ (fun x hx => by cases hx) ⟨K.setRow_below i0 (by omega) _, (setRow_other _ _ _ _ (by omega)).trans i1, (setRow_other _ _ _ _ (by omega)).trans i2, (setRow_other _ _ _ _ (by omega)).trans i3, K.setRow_own _ i4 (by omega), K.setRow_own _ i5 (by omega), setRow_heap _ _ _ _ _ _ i6, (setRow_other _ _ _ _ (by omega)).trans i7, (setRow_other _ _ _ _ (by omega)).trans i8⟩)
      | 4, ho =>
        obtain rfl := Option.some.inj ho
        obtain rfl : 1 = m := hm 1 rfl
        have h0 : a'.eval (.tmp 3) = .pointer (some ⟨(w.heap.size + 1), 0, none⟩) := (hx 3 (by decide)).trans rfl
        have h1 : a'.eval (.tmp 30) = .agg #[.int .i64 y1.k, .int .i64 y1.a, .int .i64 y1.b, .int .i64 y1.c, .int .i64 y1.d] := links_of hnd 1 30 _ (by kernel_rfl) rfl
        exact wp_store_row 27 _ _ rfl (w.heap.size + 1) _ h0 h1 _ _ i7 info_addrP rfl (by simp [Value.oneCell']) (hK _ _ (fun x hx => by cases hx) ⟨K.setRow_below i0 (by omega) _, (setRow_other _ _ _ _ (by omega)).trans i1, (setRow_other _ _ _ _ (by omega)).trans i2, (setRow_other _ _ _ _ (by omega)).trans i3, K.setRow_own _ i4 (by omega), K.setRow_own _ i5 (by omega), (setRow_other _ _ _ _ (by omega)).trans i6, setRow_heap _ _ _ _ _ _ i7, (setRow_other _ _ _ _ (by omega)).trans i8⟩)
      | 5, ho =>
        obtain rfl := Option.some.inj ho
        obtain rfl : 2 = m := hm 2 rfl
        have h0 : a'.eval (.tmp 4) = .pointer (some ⟨(w.heap.size + 1 + 1), 0, none⟩) := (hx 4 (by decide)).trans rfl
        have h1 : a'.eval (.tmp 31) = .agg #[.int .i64 y2.k, .int .i64 y2.a, .int .i64 y2.b, .int .i64 y2.c, .int .i64 y2.d] := links_of hnd 2 31 _ (by kernel_rfl) rfl
        exact wp_store_row 27 _ _ rfl (w.heap.size + 1 + 1) _ h0 h1 _ _ i8 info_addrP rfl (by simp [Value.oneCell']) (hK _ _ (fun x hx => by cases hx) ⟨K.setRow_below i0 (by omega) _, (setRow_other _ _ _ _ (by omega)).trans i1, (setRow_other _ _ _ _ (by omega)).trans i2, (setRow_other _ _ _ _ (by omega)).trans i3, K.setRow_own _ i4 (by omega), K.setRow_own _ i5 (by omega), (setRow_other _ _ _ _ (by omega)).trans i6, (setRow_other _ _ _ _ (by omega)).trans i7, setRow_heap _ _ _ _ _ _ i8⟩)
      | j + 6, ho => simp at ho
    · intro f v hf hI
      obtain ⟨i0, i1, i2, i3, i4, i5, i6, i7, i8⟩ := hI
      have e0 : f 0 = .agg #[.int .i64 x.kind, .int .i64 x.sport, .int .i64 x.dport, .int .i64 x.seq, .int .i64 x.ack, .int .i64 x.bits, .int .i64 x.window, .int .i64 x.urgent, .int .i64 x.ty, .int .i64 x.code, .int .i64 x.rest, .bool x.nosum, .slice O os.length oc, .slice D0 ds.length d0] := hf (0, 29) (by decide) _ rfl
      have e1 : f 1 = .agg #[.int .i64 y1.k, .int .i64 y1.a, .int .i64 y1.b, .int .i64 y1.c, .int .i64 y1.d] := hf (1, 30) (by decide) _ rfl
      have e2 : f 2 = .agg #[.int .i64 y2.k, .int .i64 y2.a, .int .i64 y2.b, .int .i64 y2.c, .int .i64 y2.d] := hf (2, 31) (by decide) _ rfl
      have x0 := Lib.hid i6
      have x1 := Lib.hid i7
      have x2 := Lib.hid i8
      have oo := Lib.hid i4
      have od := Lib.hid i5
      have bz := Lib.hid i0
      clear i0 i1 i2 i3 i4 i5 i6 i7 i8 ru9 ra9 rb9 p79 p89 q9 B9 O9 D9
      simp only [List.foldl_cons, List.foldl_nil, e0, e1, e2]
      clear e0 e1 e2 hf
      go_simp
      go_wp2
      (try simp only [Exit.inBlock, Exit.then])
      refine bodyPost_ret (v := .tuple #[.agg #[.int .i64 x.kind, .int .i64 x.sport, .int .i64 x.dport, .int .i64 x.seq, .int .i64 x.ack, .int .i64 x.bits, .int .i64 x.window, .int .i64 x.urgent, .int .i64 x.ty, .int .i64 x.code, .int .i64 x.rest, .bool x.nosum, .slice O os.length oc, .slice D0 ds.length d0], .agg #[.int .i64 y1.k, .int .i64 y1.a, .int .i64 y1.b, .int .i64 y1.c, .int .i64 y1.d], .agg #[.int .i64 y2.k, .int .i64 y2.a, .int .i64 y2.b, .int .i64 y2.c, .int .i64 y2.d]]) ?_ rfl ⟨O, oc, D0, d0, rfl, own_base oo.out (by omega), own_base od.out (by omega), bz.out⟩
      exact res3B Try.results28 _ _ _ _ _ _ _ _ _ rfl rfl rfl (run_loadVar_row _ _ 36 36 _ (0, 0) _ x0.out Try.underlying36 rfl info_up) (run_loadVar_row _ _ 27 27 _ (0, 0) _ x1.out Try.underlying27 rfl info_addrP) (run_loadVar_row _ _ 27 27 _ (0, 0) _ x2.out Try.underlying27 rfl info_addrP)
  | true =>
    obtain ⟨z, t5, s5, ht5, hdz⟩ := badAddrE bs (t3 + 1) s4 (by omega)
    have HZ := Lib.hid hdz
    clear hdz
    obtain ⟨v1, sv, lov, upv, hdv⟩ := pickE bs (t5) s5 4 (by omega) (by omega) (by omega)
    have HV := Lib.hid hdv
    clear hdv
    obtain ⟨x, os, ds, t6, s6, hos, hds, ht6, hdu⟩ := badUpE v1 k (by omega) hkk bs (t5 + 1) sv (by omega) hbl
    have HU := Lib.hid hdu
    clear hdu
    refine ⟨x, os, ds, y1, z, hos, hds, fun w A n c hr hl => ?_⟩
    have hbl2 : n ≤ 1048576 := by omega
    have ru0 : Hid ((((w.alloc (.cells #[.int .i64 0, .int .i64 0, .int .i64 0, .int .i64 0, .int .i64 0, .int .i64 0, .int .i64 0, .int .i64 0, .int .i64 0, .int .i64 0, .int .i64 0, .bool false, .slice none 0 0, .slice none 0 0] 36)).alloc (.cells #[.int .i64 0, .int .i64 0, .int .i64 0, .int .i64 0, .int .i64 0] 27)).alloc (.cells #[.int .i64 0, .int .i64 0, .int .i64 0, .int .i64 0, .int .i64 0] 27)).heap[w.heap.size]? = some (.cells #[.int .i64 0, .int .i64 0, .int .i64 0, .int .i64 0, .int .i64 0, .int .i64 0, .int .i64 0, .int .i64 0, .int .i64 0, .int .i64 0, .int .i64 0, .bool false, .slice none 0 0, .slice none 0 0] 36)) := Lib.hid (by repeat (first | exact K.newAt (by first | rfl | (simp; done)) | refine K.oldAt (by first | (simp; done) | (simp; omega)) ?_))
    have ra0 : Hid ((((w.alloc (.cells #[.int .i64 0, .int .i64 0, .int .i64 0, .int .i64 0, .int .i64 0, .int .i64 0, .int .i64 0, .int .i64 0, .int .i64 0, .int .i64 0, .int .i64 0, .bool false, .slice none 0 0, .slice none 0 0] 36)).alloc (.cells #[.int .i64 0, .int .i64 0, .int .i64 0, .int .i64 0, .int .i64 0] 27)).alloc (.cells #[.int .i64 0, .int .i64 0, .int .i64 0, .int .i64 0, .int .i64 0] 27)).heap[w.heap.size + 1]? = some (.cells #[.int .i64 0, .int .i64 0, .int .i64 0, .int .i64 0, .int .i64 0] 27)) := Lib.hid (K.old (show ((w.alloc (.cells #[.int .i64 0, .int .i64 0, .int .i64 0, .int .i64 0, .int .i64 0, .int .i64 0, .int .i64 0, .int .i64 0, .int .i64 0, .int .i64 0, .int .i64 0, .bool false, .slice none 0 0, .slice none 0 0] 36)).alloc (.cells #[.int .i64 0, .int .i64 0, .int .i64 0, .int .i64 0, .int .i64 0] 27)).heap[w.heap.size + 1]? = some (.cells #[.int .i64 0, .int .i64 0, .int .i64 0, .int .i64 0, .int .i64 0] 27) from K.newAt (by simp)) _)
    have rb0 : Hid ((((w.alloc (.cells #[.int .i64 0, .int .i64 0, .int .i64 0, .int .i64 0, .int .i64 0, .int .i64 0, .int .i64 0, .int .i64 0, .int .i64 0, .int .i64 0, .int .i64 0, .bool false, .slice none 0 0, .slice none 0 0] 36)).alloc (.cells #[.int .i64 0, .int .i64 0, .int .i64 0, .int .i64 0, .int .i64 0] 27)).alloc (.cells #[.int .i64 0, .int .i64 0, .int .i64 0, .int .i64 0, .int .i64 0] 27)).heap[w.heap.size + 1 + 1]? = some (.cells #[.int .i64 0, .int .i64 0, .int .i64 0, .int .i64 0, .int .i64 0] 27)) := Lib.hid (K.newAt (by simp))
    have B0 : Hid (Below w.heap.size w (((w.alloc (.cells #[.int .i64 0, .int .i64 0, .int .i64 0, .int .i64 0, .int .i64 0, .int .i64 0, .int .i64 0, .int .i64 0, .int .i64 0, .int .i64 0, .int .i64 0, .bool false, .slice none 0 0, .slice none 0 0] 36)).alloc (.cells #[.int .i64 0, .int .i64 0, .int .i64 0, .int .i64 0, .int .i64 0] 27)).alloc (.cells #[.int .i64 0, .int .i64 0, .int .i64 0, .int .i64 0, .int .i64 0] 27))) := Lib.hid (by go_grown)
    have RD := Lib.hid hr
    have HL := Lib.hid hl
    have e1 : (((w.alloc (.cells #[.int .i64 0, .int .i64 0, .int .i64 0, .int .i64 0, .int .i64 0, .int .i64 0, .int .i64 0, .int .i64 0, .int .i64 0, .int .i64 0, .int .i64 0, .bool false, .slice none 0 0, .slice none 0 0] 36)).alloc (.cells #[.int .i64 0, .int .i64 0, .int .i64 0, .int .i64 0, .int .i64 0] 27)).alloc (.cells #[.int .i64 0, .int .i64 0, .int .i64 0, .int .i64 0, .int .i64 0] 27)).heap.size = w.heap.size + 1 + 1 + 1 := by simp
    clear hr hl
    go_enter Try.func28, Try.ntmps28
    go_wp2_with fail
    refine (openD A n c bs _ ((RD.out.below B0.out).more B0.out.size) HL.out hbl2).mono ?_
    rintro e w1 ⟨rfl, c1, b1⟩
    rw [e1] at c1
    rw [e1]
    have ru1 := Lib.hid (K.below b1 ru0.out)
    have ra1 := Lib.hid (K.below b1 ra0.out)
    have rb1 := Lib.hid (K.below b1 rb0.out)
    have B1 := Lib.hid (bthen B0.out b1)
    have C1 := Lib.hid c1
    clear b1 c1 e1 ru0 ra0 rb0 B0
    go_wp2_with fail
    refine Calls.mono (H1.out _ (w.heap.size + 1 + 1 + 1) A c C1.out) ?_
    rintro e w2 ⟨rfl, hc2, hg2⟩
    have ru2 := Lib.hid (K.kept hg2 ru1.out (fun k hk => by cases hk; omega))
    have ra2 := Lib.hid (K.kept hg2 ra1.out (fun k hk => by cases hk; omega))
    have rb2 := Lib.hid (K.kept hg2 rb1.out (fun k hk => by cases hk; omega))
    have C2 := Lib.hid hc2
    have B2 := Lib.hid (bgrown B1.out hg2 (fun k hk => by cases hk; omega))
    clear hc2 hg2 ru1 ra1 rb1 C1 B1
    go_wp2_with fail
    refine Calls.mono (H2.out _ (w.heap.size + 1 + 1 + 1) A c C2.out) ?_
    rintro e w11 ⟨rfl, hc2, hg2⟩
    have ru3 := Lib.hid (K.kept hg2 ru2.out (fun k hk => by cases hk; omega))
    have ra3 := Lib.hid (K.kept hg2 ra2.out (fun k hk => by cases hk; omega))
    have rb3 := Lib.hid (K.kept hg2 rb2.out (fun k hk => by cases hk; omega))
    have C3 := Lib.hid hc2
    have B3 := Lib.hid (bgrown B2.out hg2 (fun k hk => by cases hk; omega))
    clear hc2 hg2 ru2 ra2 rb2 C2 B2
    go_wp2_with fail
    refine Calls.mono (H3.out _ (w.heap.size + 1 + 1 + 1) A c C3.out) ?_
    rintro e w3 ⟨rfl, hc2, hg2⟩
    have ru4 := Lib.hid (K.kept hg2 ru3.out (fun k hk => by cases hk; omega))
    have ra4 := Lib.hid (K.kept hg2 ra3.out (fun k hk => by cases hk; omega))
    have rb4 := Lib.hid (K.kept hg2 rb3.out (fun k hk => by cases hk; omega))
    have C4 := Lib.hid hc2
    have B4 := Lib.hid (bgrown B3.out hg2 (fun k hk => by cases hk; omega))
    clear hc2 hg2 ru3 ra3 rb3 C3 B3
    have ru5 := Lib.hid (K.old (K.old ru4.out (.cells #[.int .i64 y1.k, .int .i64 y1.a, .int .i64 y1.b, .int .i64 y1.c, .int .i64 y1.d] 27)) (.cells #[.int .i64 y2.k, .int .i64 y2.a, .int .i64 y2.b, .int .i64 y2.c, .int .i64 y2.d] 27))
    have ra5 := Lib.hid (K.old (K.old ra4.out (.cells #[.int .i64 y1.k, .int .i64 y1.a, .int .i64 y1.b, .int .i64 y1.c, .int .i64 y1.d] 27)) (.cells #[.int .i64 y2.k, .int .i64 y2.a, .int .i64 y2.b, .int .i64 y2.c, .int .i64 y2.d] 27))
    have rb5 := Lib.hid (K.old (K.old rb4.out (.cells #[.int .i64 y1.k, .int .i64 y1.a, .int .i64 y1.b, .int .i64 y1.c, .int .i64 y1.d] 27)) (.cells #[.int .i64 y2.k, .int .i64 y2.a, .int .i64 y2.b, .int .i64 y2.c, .int .i64 y2.d] 27))
    have C5 := Lib.hid (C4.out.below (Joins.below_alloc2 w3 (.cells #[.int .i64 y1.k, .int .i64 y1.a, .int .i64 y1.b, .int .i64 y1.c, .int .i64 y1.d] 27) (.cells #[.int .i64 y2.k, .int .i64 y2.a, .int .i64 y2.b, .int .i64 y2.c, .int .i64 y2.d] 27)))
    have B5 := Lib.hid (bthen B4.out (Joins.below_alloc2 w3 (.cells #[.int .i64 y1.k, .int .i64 y1.a, .int .i64 y1.b, .int .i64 y1.c, .int .i64 y1.d] 27) (.cells #[.int .i64 y2.k, .int .i64 y2.a, .int .i64 y2.b, .int .i64 y2.c, .int .i64 y2.d] 27)))
    have p75 : Hid (((w3.alloc (.cells #[.int .i64 y1.k, .int .i64 y1.a, .int .i64 y1.b, .int .i64 y1.c, .int .i64 y1.d] 27)).alloc (.cells #[.int .i64 y2.k, .int .i64 y2.a, .int .i64 y2.b, .int .i64 y2.c, .int .i64 y2.d] 27)).heap[w3.heap.size]? = some (.cells #[.int .i64 y1.k, .int .i64 y1.a, .int .i64 y1.b, .int .i64 y1.c, .int .i64 y1.d] 27)) := Lib.hid (by repeat (first | exact K.newAt (by first | rfl | (simp; done)) | refine K.oldAt (by first | (simp; done) | (simp; omega)) ?_))
    have p85 : Hid (((w3.alloc (.cells #[.int .i64 y1.k, .int .i64 y1.a, .int .i64 y1.b, .int .i64 y1.c, .int .i64 y1.d] 27)).alloc (.cells #[.int .i64 y2.k, .int .i64 y2.a, .int .i64 y2.b, .int .i64 y2.c, .int .i64 y2.d] 27)).heap[w3.heap.size + 1]? = some (.cells #[.int .i64 y2.k, .int .i64 y2.a, .int .i64 y2.b, .int .i64 y2.c, .int .i64 y2.d] 27)) := Lib.hid (by repeat (first | exact K.newAt (by first | rfl | (simp; done)) | refine K.oldAt (by first | (simp; done) | (simp; omega)) ?_))
    have l3 : w.heap.size + 1 + 1 + 1 < w3.heap.size := C4.out.lt
    clear ru4 ra4 rb4 C4 B4
    go_wp2_with fail
    generalize ((w3.alloc (.cells #[.int .i64 y1.k, .int .i64 y1.a, .int .i64 y1.b, .int .i64 y1.c, .int .i64 y1.d] 27)).alloc (.cells #[.int .i64 y2.k, .int .i64 y2.a, .int .i64 y2.b, .int .i64 y2.c, .int .i64 y2.d] 27)) = w4 at ru5 ra5 rb5 p75 p85 C5 B5 ⊢
    refine Calls.mono (H4.out _ (w.heap.size + 1 + 1 + 1) A c C5.out) ?_
    rintro e w20 ⟨rfl, hc2, hg2⟩
    have ru6 := Lib.hid (K.kept hg2 ru5.out (fun k hk => by cases hk; omega))
    have ra6 := Lib.hid (K.kept hg2 ra5.out (fun k hk => by cases hk; omega))
    have rb6 := Lib.hid (K.kept hg2 rb5.out (fun k hk => by cases hk; omega))
    have p76 := Lib.hid (K.kept hg2 p75.out (fun k hk => by cases hk; omega))
    have p86 := Lib.hid (K.kept hg2 p85.out (fun k hk => by cases hk; omega))
    have C6 := Lib.hid hc2
    have B6 := Lib.hid (bgrown B5.out hg2 (fun k hk => by cases hk; omega))
    clear hc2 hg2 ru5 ra5 rb5 p75 p85 C5 B5
    go_wp2_with fail
    refine Calls.mono (HZ.out _ (w.heap.size + 1 + 1 + 1) A c C6.out) ?_
    rintro e w21 ⟨rfl, hc2, hg2⟩
    have ru7 := Lib.hid (K.kept hg2 ru6.out (fun k hk => by cases hk; omega))
    have ra7 := Lib.hid (K.kept hg2 ra6.out (fun k hk => by cases hk; omega))
    have rb7 := Lib.hid (K.kept hg2 rb6.out (fun k hk => by cases hk; omega))
    have p77 := Lib.hid (K.kept hg2 p76.out (fun k hk => by cases hk; omega))
    have p87 := Lib.hid (K.kept hg2 p86.out (fun k hk => by cases hk; omega))
    have C7 := Lib.hid hc2
    have B7 := Lib.hid (bgrown B6.out hg2 (fun k hk => by cases hk; omega))
    clear hc2 hg2 ru6 ra6 rb6 p76 p86 C6 B6
    have ru8 := Lib.hid ((setRow_other w21 (w3.heap.size + 1) w.heap.size #[.int .i64 z.k, .int .i64 z.a, .int .i64 z.b, .int .i64 z.c, .int .i64 z.d] (by omega)).trans ru7.out)
    have ra8 := Lib.hid ((setRow_other w21 (w3.heap.size + 1) (w.heap.size + 1) #[.int .i64 z.k, .int .i64 z.a, .int .i64 z.b, .int .i64 z.c, .int .i64 z.d] (by omega)).trans ra7.out)
    have rb8 := Lib.hid ((setRow_other w21 (w3.heap.size + 1) (w.heap.size + 1 + 1) #[.int .i64 z.k, .int .i64 z.a, .int .i64 z.b, .int .i64 z.c, .int .i64 z.d] (by omega)).trans rb7.out)
    have p78 := Lib.hid ((setRow_other w21 (w3.heap.size + 1) w3.heap.size #[.int .i64 z.k, .int .i64 z.a, .int .i64 z.b, .int .i64 z.c, .int .i64 z.d] (by omega)).trans p77.out)
    have p88 : Hid ((w21.setRow (w3.heap.size + 1) #[.int .i64 z.k, .int .i64 z.a, .int .i64 z.b, .int .i64 z.c, .int .i64 z.d]).heap[w3.heap.size + 1]? = some (.cells #[.int .i64 z.k, .int .i64 z.a, .int .i64 z.b, .int .i64 z.c, .int .i64 z.d] 27 (0, 0))) := Lib.hid (setRow_heap _ _ _ _ _ _ p87.out)
    have C8 := Lib.hid (C7.out.grownBy (K.setRow_grown w21 (w3.heap.size + 1) #[.int .i64 z.k, .int .i64 z.a, .int .i64 z.b, .int .i64 z.c, .int .i64 z.d]) (fun u hu => by cases hu; omega))
    have B8 := Lib.hid (K.setRow_below B7.out (show w.heap.size ≤ w3.heap.size + 1 by omega) #[.int .i64 z.k, .int .i64 z.a, .int .i64 z.b, .int .i64 z.c, .int .i64 z.d])
    go_upto_region 6 with (with_reducible refine storeAdB rfl _ _ rfl (w3.heap.size + 1) rfl rfl p87.out ?_)
    clear ru7 ra7 rb7 p77 p87 C7 B7
    generalize (w21.setRow (w3.heap.size + 1) #[.int .i64 z.k, .int .i64 z.a, .int .i64 z.b, .int .i64 z.c, .int .i64 z.d]) = w22 at ru8 ra8 rb8 p78 p88 C8 B8 ⊢
    go_wp2_with fail
    refine Calls.mono (HV.out _ (w.heap.size + 1 + 1 + 1) A c C8.out) ?_
    rintro e w5 ⟨rfl, hc2, hg2⟩
    have ru9 := Lib.hid (K.kept hg2 ru8.out (fun k hk => by cases hk; omega))
    have ra9 := Lib.hid (K.kept hg2 ra8.out (fun k hk => by cases hk; omega))
    have rb9 := Lib.hid (K.kept hg2 rb8.out (fun k hk => by cases hk; omega))
    have p79 := Lib.hid (K.kept hg2 p78.out (fun k hk => by cases hk; omega))
    have p89 := Lib.hid (K.kept hg2 p88.out (fun k hk => by cases hk; omega))
    have C9 := Lib.hid hc2
    have B9 := Lib.hid (bgrown B8.out hg2 (fun k hk => by cases hk; omega))
    clear hc2 hg2 ru8 ra8 rb8 p78 p88 C8 B8
    go_wp2_with fail
    have l5 := K.lt p89.out
    have lC5 := C9.out.lt
    refine Calls.mono (HU.out _ (w.heap.size + 1 + 1 + 1) A c C9.out) ?_
    rintro e w6 ⟨O, oc, D0, d0, rfl, oo, od, ap, hc2, hg2⟩
    have ru10 := Lib.hid (K.kept hg2 ru9.out (fun k hk => by cases hk; omega))
    have ra10 := Lib.hid (K.kept hg2 ra9.out (fun k hk => by cases hk; omega))
    have rb10 := Lib.hid (K.kept hg2 rb9.out (fun k hk => by cases hk; omega))
    have p710 := Lib.hid (K.kept hg2 p79.out (fun k hk => by cases hk; omega))
    have p810 := Lib.hid (K.kept hg2 p89.out (fun k hk => by cases hk; omega))
    have C10 := Lib.hid hc2
    have B10 := Lib.hid (bgrown B9.out hg2 (fun k hk => by cases hk; omega))
    clear hc2  ru9 ra9 rb9 p79 p89 C9 B9
    have ru11 := Lib.hid (K.old ru10.out (.cells #[.int .i64 x.kind, .int .i64 x.sport, .int .i64 x.dport, .int .i64 x.seq, .int .i64 x.ack, .int .i64 x.bits, .int .i64 x.window, .int .i64 x.urgent, .int .i64 x.ty, .int .i64 x.code, .int .i64 x.rest, .bool x.nosum, .slice O os.length oc, .slice D0 ds.length d0] 36))
    have ra11 := Lib.hid (K.old ra10.out (.cells #[.int .i64 x.kind, .int .i64 x.sport, .int .i64 x.dport, .int .i64 x.seq, .int .i64 x.ack, .int .i64 x.bits, .int .i64 x.window, .int .i64 x.urgent, .int .i64 x.ty, .int .i64 x.code, .int .i64 x.rest, .bool x.nosum, .slice O os.length oc, .slice D0 ds.length d0] 36))
    have rb11 := Lib.hid (K.old rb10.out (.cells #[.int .i64 x.kind, .int .i64 x.sport, .int .i64 x.dport, .int .i64 x.seq, .int .i64 x.ack, .int .i64 x.bits, .int .i64 x.window, .int .i64 x.urgent, .int .i64 x.ty, .int .i64 x.code, .int .i64 x.rest, .bool x.nosum, .slice O os.length oc, .slice D0 ds.length d0] 36))
    have p711 := Lib.hid (K.old p710.out (.cells #[.int .i64 x.kind, .int .i64 x.sport, .int .i64 x.dport, .int .i64 x.seq, .int .i64 x.ack, .int .i64 x.bits, .int .i64 x.window, .int .i64 x.urgent, .int .i64 x.ty, .int .i64 x.code, .int .i64 x.rest, .bool x.nosum, .slice O os.length oc, .slice D0 ds.length d0] 36))
    have p811 := Lib.hid (K.old p810.out (.cells #[.int .i64 x.kind, .int .i64 x.sport, .int .i64 x.dport, .int .i64 x.seq, .int .i64 x.ack, .int .i64 x.bits, .int .i64 x.window, .int .i64 x.urgent, .int .i64 x.ty, .int .i64 x.code, .int .i64 x.rest, .bool x.nosum, .slice O os.length oc, .slice D0 ds.length d0] 36))
    have B11 := Lib.hid (bthen B10.out (Joins.below_alloc1 w6 (.cells #[.int .i64 x.kind, .int .i64 x.sport, .int .i64 x.dport, .int .i64 x.seq, .int .i64 x.ack, .int .i64 x.bits, .int .i64 x.window, .int .i64 x.urgent, .int .i64 x.ty, .int .i64 x.code, .int .i64 x.rest, .bool x.nosum, .slice O os.length oc, .slice D0 ds.length d0] 36)))
    have q11 := Lib.hid (K.new w6 (.cells #[.int .i64 x.kind, .int .i64 x.sport, .int .i64 x.dport, .int .i64 x.seq, .int .i64 x.ack, .int .i64 x.bits, .int .i64 x.window, .int .i64 x.urgent, .int .i64 x.ty, .int .i64 x.code, .int .i64 x.rest, .bool x.nosum, .slice O os.length oc, .slice D0 ds.length d0] 36))
    have O11 := Lib.hid (World.ownsRow.alloc oo (.cells #[.int .i64 x.kind, .int .i64 x.sport, .int .i64 x.dport, .int .i64 x.seq, .int .i64 x.ack, .int .i64 x.bits, .int .i64 x.window, .int .i64 x.urgent, .int .i64 x.ty, .int .i64 x.code, .int .i64 x.rest, .bool x.nosum, .slice O os.length oc, .slice D0 ds.length d0] 36))
    have D11 := Lib.hid (World.ownsRow.alloc od (.cells #[.int .i64 x.kind, .int .i64 x.sport, .int .i64 x.dport, .int .i64 x.seq, .int .i64 x.ack, .int .i64 x.bits, .int .i64 x.window, .int .i64 x.urgent, .int .i64 x.ty, .int .i64 x.code, .int .i64 x.rest, .bool x.nosum, .slice O os.length oc, .slice D0 ds.length d0] 36))
    have l6 : w5.heap.size ≤ w6.heap.size := hg2.size
    clear oo od ap hg2 ru10 ra10 rb10 p710 p810 C10 B10
    go_upto_region 7 with (with_reducible refine storeNewU rfl _ _ rfl rfl rfl ?_)
    generalize w6.alloc (.cells #[.int .i64 x.kind, .int .i64 x.sport, .int .i64 x.dport, .int .i64 x.seq, .int .i64 x.ack, .int .i64 x.bits, .int .i64 x.window, .int .i64 x.urgent, .int .i64 x.ty, .int .i64 x.code, .int .i64 x.rest, .bool x.nosum, .slice O os.length oc, .slice D0 ds.length d0] 36) = w7 at ru11 ra11 rb11 p711 p811 q11 B11 O11 D11 ⊢
    go_upto_region 7 with fail
    refine wp_region_links (by kernel_rfl) [2, 3, 4, 7, 8, 9] [3, 4, 5] 32 [(0, 29), (1, 30), (2, 31)] [some (.agg #[.int .i64 x.kind, .int .i64 x.sport, .int .i64 x.dport, .int .i64 x.seq, .int .i64 x.ack, .int .i64 x.bits, .int .i64 x.window, .int .i64 x.urgent, .int .i64 x.ty, .int .i64 x.code, .int .i64 x.rest, .bool x.nosum, .slice O os.length oc, .slice D0 ds.length d0]), some (.agg #[.int .i64 y1.k, .int .i64 y1.a, .int .i64 y1.b, .int .i64 y1.c, .int .i64 y1.d]), some (.agg #[.int .i64 z.k, .int .i64 z.a, .int .i64 z.b, .int .i64 z.c, .int .i64 z.d])] (fun m v => Below w.heap.size w v ∧ v.heap[w6.heap.size]? = some (.cells #[.int .i64 x.kind, .int .i64 x.sport, .int .i64 x.dport, .int .i64 x.seq, .int .i64 x.ack, .int .i64 x.bits, .int .i64 x.window, .int .i64 x.urgent, .int .i64 x.ty, .int .i64 x.code, .int .i64 x.rest, .bool x.nosum, .slice O os.length oc, .slice D0 ds.length d0] 36 (0, 0)) ∧ v.heap[w3.heap.size]? = some (.cells #[.int .i64 y1.k, .int .i64 y1.a, .int .i64 y1.b, .int .i64 y1.c, .int .i64 y1.d] 27 (0, 0)) ∧ v.heap[w3.heap.size + 1]? = some (.cells #[.int .i64 z.k, .int .i64 z.a, .int .i64 z.b, .int .i64 z.c, .int .i64 z.d] 27 (0, 0)) ∧ v.ownsRow (w.heap.size + 1 + 1 + 1) 5 1 (.slice O os.length oc) os.length (cellsOf os) ∧ v.ownsRow (w.heap.size + 1 + 1 + 1) 5 1 (.slice D0 (ds).length d0) (ds).length (cellsOf (ds)) ∧ v.heap[w.heap.size]? = some (if m = 0 then .cells #[.int .i64 0, .int .i64 0, .int .i64 0, .int .i64 0, .int .i64 0, .int .i64 0, .int .i64 0, .int .i64 0, .int .i64 0, .int .i64 0, .int .i64 0, .bool false, .slice none 0 0, .slice none 0 0] 36 (0, 0) else .cells #[.int .i64 x.kind, .int .i64 x.sport, .int .i64 x.dport, .int .i64 x.seq, .int .i64 x.ack, .int .i64 x.bits, .int .i64 x.window, .int .i64 x.urgent, .int .i64 x.ty, .int .i64 x.code, .int .i64 x.rest, .bool x.nosum, .slice O os.length oc, .slice D0 ds.length d0] 36 (0, 0)) ∧ v.heap[w.heap.size + 1]? = some (if m ≤ 1 then .cells #[.int .i64 0, .int .i64 0, .int .i64 0, .int .i64 0, .int .i64 0] 27 (0, 0) else .cells #[.int .i64 y1.k, .int .i64 y1.a, .int .i64 y1.b, .int .i64 y1.c, .int .i64 y1.d] 27 (0, 0)) ∧ v.heap[w.heap.size + 1 + 1]? = some (if m ≤ 2 then .cells #[.int .i64 0, .int .i64 0, .int .i64 0, .int .i64 0, .int .i64 0] 27 (0, 0) else .cells #[.int .i64 z.k, .int .i64 z.a, .int .i64 z.b, .int .i64 z.c, .int .i64 z.d] 27 (0, 0))) (by kernel_rfl) (by kernel_rfl) (by kernel_rfl) rfl ⟨⟨B11.out.os, B11.out.tape, B11.out.output, B11.out.size, B11.out.block⟩, q11.out, p711.out, p811.out, own_base O11.out (by omega), own_base D11.out (by omega), ru11.out, ra11.out, rb11.out⟩ ?_ ?_
    · intro j o ho m a' v K' hx hnd hm hI hK
      obtain ⟨i0, i1, i2, i3, i4, i5, i6, i7, i8⟩ := hI
      match j, ho with
      | 0, ho =>
        obtain rfl := Option.some.inj ho
        have h0 : a'.eval (.tmp 9) = .pointer (some ⟨w6.heap.size, 0, none⟩) := (hx 9 (by decide)).trans rfl
        exact wp_load_row 36 _ rfl w6.heap.size h0 _ _ (0, 0) _ i1 Try.underlying36 rfl info_up (hK _ _ (fun x hx => Option.some.inj hx) ⟨i0, i1, i2, i3, i4, i5, i6, i7, i8⟩)
      | 1, ho =>
        obtain rfl := Option.some.inj ho
        have h0 : a'.eval (.tmp 7) = .pointer (some ⟨w3.heap.size, 0, none⟩) := (hx 7 (by decide)).trans rfl
        exact wp_load_row 27 _ rfl w3.heap.size h0 _ _ (0, 0) _ i2 Try.underlying27 rfl info_addrP (hK _ _ (fun x hx => Option.some.inj hx) ⟨i0, i1, i2, i3, i4, i5, i6, i7, i8⟩)
      | 2, ho =>
        obtain rfl := Option.some.inj ho
        have h0 : a'.eval (.tmp 8) = .pointer (some ⟨(w3.heap.size + 1), 0, none⟩) := (hx 8 (by decide)).trans rfl
        exact wp_load_row 27 _ rfl (w3.heap.size + 1) h0 _ _ (0, 0) _ i3 Try.underlying27 rfl info_addrP (hK _ _ (fun x hx => Option.some.inj hx) ⟨i0, i1, i2, i3, i4, i5, i6, i7, i8⟩)
      | 3, ho =>
        obtain rfl := Option.some.inj ho
        obtain rfl : 0 = m := hm 0 rfl
        have h0 : a'.eval (.tmp 2) = .pointer (some ⟨w.heap.size, 0, none⟩) := (hx 2 (by decide)).trans rfl
        have h1 : a'.eval (.tmp 29) = .agg #[.int .i64 x.kind, .int .i64 x.sport, .int .i64 x.dport, .int .i64 x.seq, .int .i64 x.ack, .int .i64 x.bits, .int .i64 x.window, .int .i64 x.urgent, .int .i64 x.ty, .int .i64 x.code, .int .i64 x.rest, .bool x.nosum, .slice O os.length oc, .slice D0 ds.length d0] := links_of hnd 0 29 _ (by kernel_rfl) rfl
        exact wp_store_row 36 _ _ rfl w.heap.size _ h0 h1 _ _ i6 info_up rfl (by simp [Value.oneCell']) (hK _ _ (fun x hx => by cases hx) ⟨K.setRow_below i0 (by omega) _, (setRow_other _ _ _ _ (by omega)).trans i1, (setRow_other _ _ _ _ (by omega)).trans i2, (setRow_other _ _ _ _ (by omega)).trans i3, K.setRow_own _ i4 (by omega), K.setRow_own _ i5 (by omega), setRow_heap _ _ _ _ _ _ i6, (setRow_other _ _ _ _ (by omega)).trans i7, (setRow_other _ _ _ _ (by omega)).trans i8⟩)
      | 4, ho =>
        obtain rfl := Option.some.inj ho
        obtain rfl : 1 = m := hm 1 rfl
        have h0 : a'.eval (.tmp 3) = .pointer (some ⟨(w.heap.size + 1), 0, none⟩) := (hx 3 (by decide)).trans rfl
        have h1 : a'.eval (.tmp 30) = .agg #[.int .i64 y1.k, .int .i64 y1.a, .int .i64 y1.b, .int .i64 y1.c, .int .i64 y1.d] := links_of hnd 1 30 _ (by kernel_rfl) rfl
        exact wp_store_row 27 _ _ rfl (w.heap.size + 1) _ h0 h1 _ _ i7 info_addrP rfl (by simp [Value.oneCell']) (hK _ _ (fun x hx => by cases hx) ⟨K.setRow_below i0 (by omega) _, (setRow_other _ _ _ _ (by omega)).trans i1, (setRow_other _ _ _ _ (by omega)).trans i2, (setRow_other _ _ _ _ (by omega)).trans i3, K.setRow_own _ i4 (by omega), K.setRow_own _ i5 (by omega), (setRow_other _ _ _ _ (by omega)).trans i6, setRow_heap _ _ _ _ _ _ i7, (setRow_other _ _ _ _ (by omega)).trans i8⟩)
      | 5, ho =>
        obtain rfl := Option.some.inj ho
        obtain rfl : 2 = m := hm 2 rfl
        have h0 : a'.eval (.tmp 4) = .pointer (some ⟨(w.heap.size + 1 + 1), 0, none⟩) := (hx 4 (by decide)).trans rfl
        have h1 : a'.eval (.tmp 31) = .agg #[.int .i64 z.k, .int .i64 z.a, .int .i64 z.b, .int .i64 z.c, .int .i64 z.d] := links_of hnd 2 31 _ (by kernel_rfl) rfl
        exact wp_store_row 27 _ _ rfl (w.heap.size + 1 + 1) _ h0 h1 _ _ i8 info_addrP rfl (by simp [Value.oneCell']) (hK _ _ (fun x hx => by cases hx) ⟨K.setRow_below i0 (by omega) _, (setRow_other _ _ _ _ (by omega)).trans i1, (setRow_other _ _ _ _ (by omega)).trans i2, (setRow_other _ _ _ _ (by omega)).trans i3, K.setRow_own _ i4 (by omega), K.setRow_own _ i5 (by omega), (setRow_other _ _ _ _ (by omega)).trans i6, (setRow_other _ _ _ _ (by omega)).trans i7, setRow_heap _ _ _ _ _ _ i8⟩)
      | j + 6, ho => simp at ho
    · intro f v hf hI
      obtain ⟨i0, i1, i2, i3, i4, i5, i6, i7, i8⟩ := hI
      have e0 : f 0 = .agg #[.int .i64 x.kind, .int .i64 x.sport, .int .i64 x.dport, .int .i64 x.seq, .int .i64 x.ack, .int .i64 x.bits, .int .i64 x.window, .int .i64 x.urgent, .int .i64 x.ty, .int .i64 x.code, .int .i64 x.rest, .bool x.nosum, .slice O os.length oc, .slice D0 ds.length d0] := hf (0, 29) (by decide) _ rfl
      have e1 : f 1 = .agg #[.int .i64 y1.k, .int .i64 y1.a, .int .i64 y1.b, .int .i64 y1.c, .int .i64 y1.d] := hf (1, 30) (by decide) _ rfl
      have e2 : f 2 = .agg #[.int .i64 z.k, .int .i64 z.a, .int .i64 z.b, .int .i64 z.c, .int .i64 z.d] := hf (2, 31) (by decide) _ rfl
      have x0 := Lib.hid i6
      have x1 := Lib.hid i7
      have x2 := Lib.hid i8
      have oo := Lib.hid i4
      have od := Lib.hid i5
      have bz := Lib.hid i0
      clear i0 i1 i2 i3 i4 i5 i6 i7 i8 ru11 ra11 rb11 p711 p811 q11 B11 O11 D11
      simp only [List.foldl_cons, List.foldl_nil, e0, e1, e2]
      clear e0 e1 e2 hf
      go_simp
      go_wp2
      (try simp only [Exit.inBlock, Exit.then])
      refine bodyPost_ret (v := .tuple #[.agg #[.int .i64 x.kind, .int .i64 x.sport, .int .i64 x.dport, .int .i64 x.seq, .int .i64 x.ack, .int .i64 x.bits, .int .i64 x.window, .int .i64 x.urgent, .int .i64 x.ty, .int .i64 x.code, .int .i64 x.rest, .bool x.nosum, .slice O os.length oc, .slice D0 ds.length d0], .agg #[.int .i64 y1.k, .int .i64 y1.a, .int .i64 y1.b, .int .i64 y1.c, .int .i64 y1.d], .agg #[.int .i64 z.k, .int .i64 z.a, .int .i64 z.b, .int .i64 z.c, .int .i64 z.d]]) ?_ rfl ⟨O, oc, D0, d0, rfl, own_base oo.out (by omega), own_base od.out (by omega), bz.out⟩
      exact res3B Try.results28 _ _ _ _ _ _ _ _ _ rfl rfl rfl (run_loadVar_row _ _ 36 36 _ (0, 0) _ x0.out Try.underlying36 rfl info_up) (run_loadVar_row _ _ 27 27 _ (0, 0) _ x1.out Try.underlying27 rfl info_addrP) (run_loadVar_row _ _ 27 27 _ (0, 0) _ x2.out Try.underlying27 rfl info_addrP)
end Go.Proofs.Ythogonpjkngpjaa
