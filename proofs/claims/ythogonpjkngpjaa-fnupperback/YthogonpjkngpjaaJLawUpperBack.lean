/-
  Decoding what was encoded between two addresses returns it. The law FnUpperBack holds at every code: no condition; the argument reads afterwards as before.
-/
import Derived.Test.YthogonpjkngpjaaRows
import Derived.Test.YthogonpjkngpjaaRc01
import Derived.Test.YthogonpjkngpjaaRc10
import Derived.Test.YthogonpjkngpjaaRc31
import Derived.Test.YthogonpjkngpjaaRc37
import Derived.ShutString
namespace Go.Proofs.Ythogonpjkngpjaa
set_option maxRecDepth 100000
open Go.RowKit
set_option maxHeartbeats 400000 in
theorem bigUB (A : Option Addr) (n c : Nat) (b : Bool) (w : World) (h : decide ((1048576 : Int) < n) = b) : Calls Try.prog 24 #[.slice A n c] w fun e w' => e = .returned (.bool b) ∧ w = w' := by
  have H := Lib.hid h
  clear h
  go_enter Try.func24, Try.ntmps24
  go_wp2
  go_ret
  exact ⟨ret_bool H.out, rfl⟩
theorem own_capB {w : World} {base n c : Nat} {e : TypeId} {A : Option Addr} {xs : List Value} (h : w.ownsRow base e 1 (.slice A n c) n xs) : n ≤ c ∧ (A = none → c = 0) := by
  rcases h.2 with ⟨h1, h2⟩ | ⟨g, cap, cur, hv, _, _, hc, _⟩
  · injection h1 with _ _ h3
    exact ⟨by omega, fun _ => h3⟩
  · injection hv with h1 _ h3
    exact ⟨by omega, fun e => by rw [e] at h1; cases h1⟩
theorem loadUGB {ops : Array Oper} {rest : List Oper} {o : Oper} {a : Act} {w : World} {Q : Exit → Act → World → Prop} (x : Operand) (ho : o.op = .load 36 x) (g : Nat) (hx : a.eval x = .pointer (some ⟨g, 0, none⟩)) (hw : Region.wanted o (yielded ops a.tmps) = true) {t : TypeId} {v0 v1 v2 v3 v4 v5 v6 v7 v8 v9 v10 v11 v12 v13 : Value}
    (hg : w.heap[g]? = some (.cells #[v0, v1, v2, v3, v4, v5, v6, v7, v8, v9, v10, v11, v12, v13] t (0, 0))) (h : wpList Try.prog ops Q rest (a.put o.dst (.agg #[v0, v1, v2, v3, v4, v5, v6, v7, v8, v9, v10, v11, v12, v13])) w) : wpList Try.prog ops Q (o :: rest) a w :=
  wpList_step fun _ hK => by rw [if_pos hw]; exact wp_load_row 36 x ho g hx t _ (0, 0) _ hg Try.underlying36 rfl info_up (hK _ _ h)
theorem pairA_kB {s t : Ad} (h : pairA s t = true) : s.k = 4 ∨ s.k = 6 := by
  have hxy : (s.ok = true ∧ t.ok = true) ∧ s.k = t.k := by simpa [pairA] using h
  exact Ad.ok_kind hxy.1.1
theorem readUB (A : Option Addr) (c : Nat) (x : Uh) (os ds L : List UInt8) (n P Q : Nat) (p : Int) (s t : Ad) (w : World) (hL : x.out os ds s t = L) (hn : L.length = n) (hP : os.length = P) (hQ : ds.length = Q) (hok : (pairA s t && x.ok s.k os.length ds.length) = true) (hp : kindU p s.k = x.kind) (hq : upTo p 255 = true) (hr : RB w w.heap.size A L) (hc : n ≤ c) (h0 : A = none → c = 0) :
    Calls Try.prog 18 #[.slice A n c, .int .i64 p, .agg #[.int .i64 s.k, .int .i64 s.a, .int .i64 s.b, .int .i64 s.c, .int .i64 s.d], .agg #[.int .i64 t.k, .int .i64 t.a, .int .i64 t.b, .int .i64 t.c, .int .i64 t.d]] w fun e w' => ∃ O oc D d, e = .returned (.tuple #[.agg #[.int .i64 x.kind, .int .i64 x.sport, .int .i64 x.dport, .int .i64 x.seq, .int .i64 x.ack, .int .i64 x.bits, .int .i64 x.window, .int .i64 x.urgent, .int .i64 x.ty, .int .i64 x.code, .int .i64 x.rest, .bool x.nosum, .slice O P oc, .slice D Q d], .int .i64 0]) ∧ w'.ownsRow w.heap.size 5 1 (.slice O P oc) P (cellsOf os) ∧ w'.ownsRow w.heap.size 5 1 (.slice D Q d) Q (cellsOf ds) ∧ Below w.heap.size w w' := by
  have hLe : L = x.enc os ds (x.sum os ds s t) := by rw [← hL, Uh.out, if_pos hok]
  obtain ⟨h1, h2, h3, h4⟩ := up_back hok p hp hq L hLe
  have hl5 : L.length ≤ 1500 := by rw [← hL]; exact Uh.out_len
  have h := implUpperRead A n c L p s t w hr hn (by omega) hc h0
  unfold URead UROut at h
  have e1 : urx L p s t = x := by rw [urx, if_pos h1, h2]
  have e2 : uro L p s t = os := by rw [uro, if_pos h1, h3]
  have e3 : urb L p s t = ds := by rw [urb, if_pos h1, h4]
  rw [e1, e2, e3, h1, hP, hQ] at h
  exact h.mono fun e w' ⟨O, oc, D, d, he, o1, o2, _, hb⟩ => ⟨O, oc, D, d, he, o1, o2, hb⟩
set_option maxHeartbeats 400000 in
theorem lawUB_big {w : World} (A : Option Addr) (n c : Nat) (h : 1048576 < n) : Calls Try.prog 7 #[.slice A n c] w fun e w' => e = .returned (.bool true) ∧ Below w.heap.size w w' := by
  have H := Lib.hid (show decide ((1048576 : Int) < n) = true by simp; omega)
  clear h
  go_enter Try.func7, Try.ntmps7
  go_wp2_with fail
  refine Calls.mono (bigUB A n c true _ H.out) ?_
  rintro e w1 ⟨rfl, rfl⟩
  go_wp2
  go_ret
  exact ⟨rfl, Below.refl _ _⟩
theorem kindsUB {x : Uh} {s t : Ad} {m n : Nat} (hok : (pairA s t && x.ok s.k m n) = true) : (x.kind = 0 ∧ kindU 47 s.k = x.kind ∧ True) ∨ (x.kind = 1 ∧ kindU 6 s.k = x.kind ∧ True) ∨ (x.kind = 2 ∧ kindU 17 s.k = x.kind ∧ True) ∨ (x.kind = 3 ∧ kindU 1 s.k = x.kind ∧ (s.k == 6) = false) ∨ (x.kind = 3 ∧ kindU 58 s.k = x.kind ∧ (s.k == 6) = true) := by
  rw [Bool.and_eq_true] at hok
  rcases Uh.ok_kind hok.2 with e | e | e | e
  · exact Or.inl ⟨e, by simp [kindU, e], trivial⟩
  · exact Or.inr (Or.inl ⟨e, by simp [kindU, e], trivial⟩)
  · exact Or.inr (Or.inr (Or.inl ⟨e, by simp [kindU, e], trivial⟩))
  · rcases pairA_kB hok.1 with k4 | k6
    · exact Or.inr (Or.inr (Or.inr (Or.inl ⟨e, by simp [kindU, e, k4], by simp [k4]⟩)))
    · exact Or.inr (Or.inr (Or.inr (Or.inr ⟨e, by simp [kindU, e, k6], by simp [k6]⟩)))
set_option maxHeartbeats 4000000 in
theorem lawUB_small {w : World} (A : Option Addr) (n c : Nat) (bs : List UInt8) (hr : RB w w.heap.size A bs) (hl : bs.length = n) (hn : n ≤ 1048576) (x : Uh) (os ds : List UInt8) (s t : Ad) (P Q : Nat) (hP : os.length = P) (hQ : ds.length = Q) (hP2 : P ≤ 45) (hQ2 : Q ≤ 1500) (hd : ∀ (w : World) (A : Option Addr) (n c : Nat), RB w w.heap.size A bs → bs.length = n → Calls Try.prog 28 #[.slice A n c] w (DUBOut x os ds s t P Q w)) : Calls Try.prog 7 #[.slice A n c] w fun e w' => e = .returned (.bool true) ∧ Below w.heap.size w w' := by
  have H := Lib.hid (show decide ((1048576 : Int) < n) = false by simp; omega)
  have R0 := Lib.hid hr
  have HL := Lib.hid hl
  have HD := Lib.hid hd
  have HP := Lib.hid hP
  have HQ := Lib.hid hQ
  obtain ⟨S, hS⟩ : ∃ S, Uh.sum x os ds s t = S := ⟨_, rfl⟩
  have HS := Lib.hid hS
  obtain ⟨L, hL⟩ : ∃ L, Uh.out x os ds s t = L := ⟨_, rfl⟩
  have HLL := Lib.hid hL
  obtain ⟨N, hN⟩ : ∃ N, L.length = N := ⟨_, rfl⟩
  have HN := Lib.hid hN
  clear hr hl hd hP hQ hL hN hS
  go_enter Try.func7, Try.ntmps7
  go_wp2_with fail
  refine Calls.mono (bigUB A n c false _ H.out) ?_
  rintro e w1 ⟨rfl, rfl⟩
  go_wp2_with fail
  refine Calls.mono (HD.out _ A n c R0.out HL.out) ?_
  rintro e w2 ⟨O, oc, D, d, rfl, oo, od, b2⟩
  have q2 := Lib.hid (K.old (K.old (K.new w2 (.cells #[.int .i64 x.kind, .int .i64 x.sport, .int .i64 x.dport, .int .i64 x.seq, .int .i64 x.ack, .int .i64 x.bits, .int .i64 x.window, .int .i64 x.urgent, .int .i64 x.ty, .int .i64 x.code, .int .i64 x.rest, .bool x.nosum, .slice O P oc, .slice D Q d] 36)) (.cells #[.int .i64 s.k, .int .i64 s.a, .int .i64 s.b, .int .i64 s.c, .int .i64 s.d] 27)) (.cells #[.int .i64 t.k, .int .i64 t.a, .int .i64 t.b, .int .i64 t.c, .int .i64 t.d] 27))
  have p2 : Hid ((((w2.alloc (.cells #[.int .i64 x.kind, .int .i64 x.sport, .int .i64 x.dport, .int .i64 x.seq, .int .i64 x.ack, .int .i64 x.bits, .int .i64 x.window, .int .i64 x.urgent, .int .i64 x.ty, .int .i64 x.code, .int .i64 x.rest, .bool x.nosum, .slice O P oc, .slice D Q d] 36)).alloc (.cells #[.int .i64 s.k, .int .i64 s.a, .int .i64 s.b, .int .i64 s.c, .int .i64 s.d] 27)).alloc (.cells #[.int .i64 t.k, .int .i64 t.a, .int .i64 t.b, .int .i64 t.c, .int .i64 t.d] 27)).heap[w2.heap.size + 1]? = some (.cells #[.int .i64 s.k, .int .i64 s.a, .int .i64 s.b, .int .i64 s.c, .int .i64 s.d] 27)) := Lib.hid (by repeat (first | exact K.newAt (by first | rfl | (simp; done)) | refine K.oldAt (by first | (simp; done) | (simp; omega)) ?_))
  have r2 : Hid ((((w2.alloc (.cells #[.int .i64 x.kind, .int .i64 x.sport, .int .i64 x.dport, .int .i64 x.seq, .int .i64 x.ack, .int .i64 x.bits, .int .i64 x.window, .int .i64 x.urgent, .int .i64 x.ty, .int .i64 x.code, .int .i64 x.rest, .bool x.nosum, .slice O P oc, .slice D Q d] 36)).alloc (.cells #[.int .i64 s.k, .int .i64 s.a, .int .i64 s.b, .int .i64 s.c, .int .i64 s.d] 27)).alloc (.cells #[.int .i64 t.k, .int .i64 t.a, .int .i64 t.b, .int .i64 t.c, .int .i64 t.d] 27)).heap[w2.heap.size + 1 + 1]? = some (.cells #[.int .i64 t.k, .int .i64 t.a, .int .i64 t.b, .int .i64 t.c, .int .i64 t.d] 27)) := Lib.hid (K.newAt (by simp))
  have O2 := Lib.hid (((oo.alloc (.cells #[.int .i64 x.kind, .int .i64 x.sport, .int .i64 x.dport, .int .i64 x.seq, .int .i64 x.ack, .int .i64 x.bits, .int .i64 x.window, .int .i64 x.urgent, .int .i64 x.ty, .int .i64 x.code, .int .i64 x.rest, .bool x.nosum, .slice O P oc, .slice D Q d] 36)).alloc (.cells #[.int .i64 s.k, .int .i64 s.a, .int .i64 s.b, .int .i64 s.c, .int .i64 s.d] 27)).alloc (.cells #[.int .i64 t.k, .int .i64 t.a, .int .i64 t.b, .int .i64 t.c, .int .i64 t.d] 27))
  have D2 := Lib.hid (((od.alloc (.cells #[.int .i64 x.kind, .int .i64 x.sport, .int .i64 x.dport, .int .i64 x.seq, .int .i64 x.ack, .int .i64 x.bits, .int .i64 x.window, .int .i64 x.urgent, .int .i64 x.ty, .int .i64 x.code, .int .i64 x.rest, .bool x.nosum, .slice O P oc, .slice D Q d] 36)).alloc (.cells #[.int .i64 s.k, .int .i64 s.a, .int .i64 s.b, .int .i64 s.c, .int .i64 s.d] 27)).alloc (.cells #[.int .i64 t.k, .int .i64 t.a, .int .i64 t.b, .int .i64 t.c, .int .i64 t.d] 27))
  have B2 : Hid (Below w.heap.size w (((w2.alloc (.cells #[.int .i64 x.kind, .int .i64 x.sport, .int .i64 x.dport, .int .i64 x.seq, .int .i64 x.ack, .int .i64 x.bits, .int .i64 x.window, .int .i64 x.urgent, .int .i64 x.ty, .int .i64 x.code, .int .i64 x.rest, .bool x.nosum, .slice O P oc, .slice D Q d] 36)).alloc (.cells #[.int .i64 s.k, .int .i64 s.a, .int .i64 s.b, .int .i64 s.c, .int .i64 s.d] 27)).alloc (.cells #[.int .i64 t.k, .int .i64 t.a, .int .i64 t.b, .int .i64 t.c, .int .i64 t.d] 27))) := Lib.hid (bthen (bthen b2 (Joins.below_alloc2 w2 _ _)) (Joins.below_alloc1 _ _))
  clear oo od b2
  go_wp2_with (with_reducible refine storeNewU rfl _ _ rfl rfl rfl ?_)
  generalize (((w2.alloc (.cells #[.int .i64 x.kind, .int .i64 x.sport, .int .i64 x.dport, .int .i64 x.seq, .int .i64 x.ack, .int .i64 x.bits, .int .i64 x.window, .int .i64 x.urgent, .int .i64 x.ty, .int .i64 x.code, .int .i64 x.rest, .bool x.nosum, .slice O P oc, .slice D Q d] 36)).alloc (.cells #[.int .i64 s.k, .int .i64 s.a, .int .i64 s.b, .int .i64 s.c, .int .i64 s.d] 27)).alloc (.cells #[.int .i64 t.k, .int .i64 t.a, .int .i64 t.b, .int .i64 t.c, .int .i64 t.d] 27)) = w3 at q2 p2 r2 O2 D2 B2 ⊢
  refine Calls.mono (HD.out _ A n c ((R0.out.below B2.out).more B2.out.size) HL.out) ?_
  rintro e w4 ⟨O4, o4, D4, d4, rfl, oo, od, b4⟩
  have q4 := Lib.hid (K.old (K.old (K.old (K.below b4 q2.out) (.cells #[.int .i64 x.kind, .int .i64 x.sport, .int .i64 x.dport, .int .i64 x.seq, .int .i64 x.ack, .int .i64 x.bits, .int .i64 x.window, .int .i64 x.urgent, .int .i64 x.ty, .int .i64 x.code, .int .i64 x.rest, .bool x.nosum, .slice O4 P o4, .slice D4 Q d4] 36)) (.cells #[.int .i64 s.k, .int .i64 s.a, .int .i64 s.b, .int .i64 s.c, .int .i64 s.d] 27)) (.cells #[.int .i64 t.k, .int .i64 t.a, .int .i64 t.b, .int .i64 t.c, .int .i64 t.d] 27))
  have p4 := Lib.hid (K.old (K.old (K.old (K.below b4 p2.out) (.cells #[.int .i64 x.kind, .int .i64 x.sport, .int .i64 x.dport, .int .i64 x.seq, .int .i64 x.ack, .int .i64 x.bits, .int .i64 x.window, .int .i64 x.urgent, .int .i64 x.ty, .int .i64 x.code, .int .i64 x.rest, .bool x.nosum, .slice O4 P o4, .slice D4 Q d4] 36)) (.cells #[.int .i64 s.k, .int .i64 s.a, .int .i64 s.b, .int .i64 s.c, .int .i64 s.d] 27)) (.cells #[.int .i64 t.k, .int .i64 t.a, .int .i64 t.b, .int .i64 t.c, .int .i64 t.d] 27))
  have r4 := Lib.hid (K.old (K.old (K.old (K.below b4 r2.out) (.cells #[.int .i64 x.kind, .int .i64 x.sport, .int .i64 x.dport, .int .i64 x.seq, .int .i64 x.ack, .int .i64 x.bits, .int .i64 x.window, .int .i64 x.urgent, .int .i64 x.ty, .int .i64 x.code, .int .i64 x.rest, .bool x.nosum, .slice O4 P o4, .slice D4 Q d4] 36)) (.cells #[.int .i64 s.k, .int .i64 s.a, .int .i64 s.b, .int .i64 s.c, .int .i64 s.d] 27)) (.cells #[.int .i64 t.k, .int .i64 t.a, .int .i64 t.b, .int .i64 t.c, .int .i64 t.d] 27))
  have O4_ := Lib.hid (((World.ownsRow.alloc (own_below O2.out b4) (.cells #[.int .i64 x.kind, .int .i64 x.sport, .int .i64 x.dport, .int .i64 x.seq, .int .i64 x.ack, .int .i64 x.bits, .int .i64 x.window, .int .i64 x.urgent, .int .i64 x.ty, .int .i64 x.code, .int .i64 x.rest, .bool x.nosum, .slice O4 P o4, .slice D4 Q d4] 36)).alloc (.cells #[.int .i64 s.k, .int .i64 s.a, .int .i64 s.b, .int .i64 s.c, .int .i64 s.d] 27)).alloc (.cells #[.int .i64 t.k, .int .i64 t.a, .int .i64 t.b, .int .i64 t.c, .int .i64 t.d] 27))
  have D4_ := Lib.hid (((World.ownsRow.alloc (own_below D2.out b4) (.cells #[.int .i64 x.kind, .int .i64 x.sport, .int .i64 x.dport, .int .i64 x.seq, .int .i64 x.ack, .int .i64 x.bits, .int .i64 x.window, .int .i64 x.urgent, .int .i64 x.ty, .int .i64 x.code, .int .i64 x.rest, .bool x.nosum, .slice O4 P o4, .slice D4 Q d4] 36)).alloc (.cells #[.int .i64 s.k, .int .i64 s.a, .int .i64 s.b, .int .i64 s.c, .int .i64 s.d] 27)).alloc (.cells #[.int .i64 t.k, .int .i64 t.a, .int .i64 t.b, .int .i64 t.c, .int .i64 t.d] 27))
  have v4 := Lib.hid (K.old (K.old (K.new w4 (.cells #[.int .i64 x.kind, .int .i64 x.sport, .int .i64 x.dport, .int .i64 x.seq, .int .i64 x.ack, .int .i64 x.bits, .int .i64 x.window, .int .i64 x.urgent, .int .i64 x.ty, .int .i64 x.code, .int .i64 x.rest, .bool x.nosum, .slice O4 P o4, .slice D4 Q d4] 36)) (.cells #[.int .i64 s.k, .int .i64 s.a, .int .i64 s.b, .int .i64 s.c, .int .i64 s.d] 27)) (.cells #[.int .i64 t.k, .int .i64 t.a, .int .i64 t.b, .int .i64 t.c, .int .i64 t.d] 27))
  have VO := Lib.hid (((oo.alloc (.cells #[.int .i64 x.kind, .int .i64 x.sport, .int .i64 x.dport, .int .i64 x.seq, .int .i64 x.ack, .int .i64 x.bits, .int .i64 x.window, .int .i64 x.urgent, .int .i64 x.ty, .int .i64 x.code, .int .i64 x.rest, .bool x.nosum, .slice O4 P o4, .slice D4 Q d4] 36)).alloc (.cells #[.int .i64 s.k, .int .i64 s.a, .int .i64 s.b, .int .i64 s.c, .int .i64 s.d] 27)).alloc (.cells #[.int .i64 t.k, .int .i64 t.a, .int .i64 t.b, .int .i64 t.c, .int .i64 t.d] 27))
  have VD := Lib.hid (((od.alloc (.cells #[.int .i64 x.kind, .int .i64 x.sport, .int .i64 x.dport, .int .i64 x.seq, .int .i64 x.ack, .int .i64 x.bits, .int .i64 x.window, .int .i64 x.urgent, .int .i64 x.ty, .int .i64 x.code, .int .i64 x.rest, .bool x.nosum, .slice O4 P o4, .slice D4 Q d4] 36)).alloc (.cells #[.int .i64 s.k, .int .i64 s.a, .int .i64 s.b, .int .i64 s.c, .int .i64 s.d] 27)).alloc (.cells #[.int .i64 t.k, .int .i64 t.a, .int .i64 t.b, .int .i64 t.c, .int .i64 t.d] 27))
  have B4 : Hid (Below w.heap.size w (((w4.alloc (.cells #[.int .i64 x.kind, .int .i64 x.sport, .int .i64 x.dport, .int .i64 x.seq, .int .i64 x.ack, .int .i64 x.bits, .int .i64 x.window, .int .i64 x.urgent, .int .i64 x.ty, .int .i64 x.code, .int .i64 x.rest, .bool x.nosum, .slice O4 P o4, .slice D4 Q d4] 36)).alloc (.cells #[.int .i64 s.k, .int .i64 s.a, .int .i64 s.b, .int .i64 s.c, .int .i64 s.d] 27)).alloc (.cells #[.int .i64 t.k, .int .i64 t.a, .int .i64 t.b, .int .i64 t.c, .int .i64 t.d] 27))) := Lib.hid (bthen (bthen (bthen B2.out b4) (Joins.below_alloc2 w4 _ _)) (Joins.below_alloc1 _ _))
  clear oo od b4 q2 p2 r2 O2 D2 B2
  go_wp2_with (first | (with_reducible refine storeNewU rfl _ _ rfl rfl rfl ?_) | (with_reducible refine loadU rfl _ rfl w4.heap.size rfl v4.out ?_) | (with_reducible refine loadA rfl _ rfl (w2.heap.size + 1) rfl p4.out ?_) | (with_reducible refine loadA rfl _ rfl (w2.heap.size + 1 + 1) rfl r4.out ?_))
  refine Calls.mono (ubI x s t O4 D4 P o4 Q d4 os ds _ (RB.of_own VO.out) HP.out (RB.of_own VD.out) HQ.out (by omega) (by omega)) ?_
  rintro e w5 ⟨E, ec, rfl, oe, b5⟩
  rw [HLL.out, HN.out] at oe
  rw [HLL.out, HN.out]
  have q5 := Lib.hid (K.below b5 q4.out)
  have p5 := Lib.hid (K.below b5 p4.out)
  have r5 := Lib.hid (K.below b5 r4.out)
  have O5 := Lib.hid (own_below O4_.out b5)
  have D5 := Lib.hid (own_below D4_.out b5)
  have B5 := Lib.hid (bthen B4.out b5)
  have OE := Lib.hid oe
  clear oe b5 q4 p4 r4 O4_ D4_ v4 VO VD B4
  go_wp2_with (first | (with_reducible refine storeNewU rfl _ _ rfl rfl rfl ?_) | (with_reducible refine loadU rfl _ rfl w2.heap.size rfl q5.out ?_) | (with_reducible refine loadA rfl _ rfl (w2.heap.size + 1) rfl p5.out ?_) | (with_reducible refine loadA rfl _ rfl (w2.heap.size + 1 + 1) rfl r5.out ?_))
  refine Calls.mono (usS x s t O D P oc Q d os ds _ (RB.of_own O5.out) HP.out (RB.of_own D5.out) HQ.out (by omega) (by omega)) ?_
  rintro e w6 ⟨rfl, b6⟩
  rw [HS.out]
  have q6 := Lib.hid (K.below b6 q5.out)
  have p6 := Lib.hid (K.below b6 p5.out)
  have r6 := Lib.hid (K.below b6 r5.out)
  have O6 := Lib.hid (own_below O5.out b6)
  have D6 := Lib.hid (own_below D5.out b6)
  have OE6 := Lib.hid (own_below OE.out b6)
  have B6 := Lib.hid (bthen B5.out b6)
  clear b6 q5 p5 r5 O5 D5 OE B5
  cases hok : (pairA s t && x.ok s.k os.length ds.length) with
  | false =>
    have hS1 : S = -1 := by rw [← HS.out]; exact Uh.sum_no hok
    have hN0 : N = 0 := by rw [← HN.out, ← HLL.out, Uh.out, if_neg (by rw [hok]; simp)]; rfl
    subst hS1
    subst hN0
    clear q6 p6 r6 O6 D6 OE6 hok HS HLL HN
    go_wp2
    go_ret
    exact ⟨rfl, B6.out⟩
  | true =>
    have hsr := Uh.sum_range hok
    rw [HS.out] at hsr
    have hS0 : ¬ S < 0 := by omega
    have hc := kindsUB hok
    have HOK := Lib.hid hok
    clear hok
    have q7 := Lib.hid (K.old q6.out (.cells #[.int .i64 47, .int .i64 6, .int .i64 17, .int .i64 1] 3))
    have p7 := Lib.hid (K.old p6.out (.cells #[.int .i64 47, .int .i64 6, .int .i64 17, .int .i64 1] 3))
    have r7 := Lib.hid (K.old r6.out (.cells #[.int .i64 47, .int .i64 6, .int .i64 17, .int .i64 1] 3))
    have O7 := Lib.hid (World.ownsRow.alloc O6.out (.cells #[.int .i64 47, .int .i64 6, .int .i64 17, .int .i64 1] 3))
    have D7 := Lib.hid (World.ownsRow.alloc D6.out (.cells #[.int .i64 47, .int .i64 6, .int .i64 17, .int .i64 1] 3))
    have OE7 := Lib.hid (World.ownsRow.alloc OE6.out (.cells #[.int .i64 47, .int .i64 6, .int .i64 17, .int .i64 1] 3))
    have B7 := Lib.hid (bthen B6.out (Joins.below_alloc1 w6 (.cells #[.int .i64 47, .int .i64 6, .int .i64 17, .int .i64 1] 3)))
    clear q6 p6 r6 O6 D6 OE6 B6
    have d0 := K.cell q7.out 0 _ rfl
    have d1 := K.cell p7.out 0 _ rfl
    rcases hc with ⟨e, hku, g6⟩ | ⟨e, hku, g6⟩ | ⟨e, hku, g6⟩ | ⟨e, hku, g6⟩ | ⟨e, hku, g6⟩
    all_goals
     rw [e] at d0
     have HKU := Lib.hid hku
     clear hku e
     go_upto_region 11 with fail
     clear d0 d1
     generalize w6.alloc (.cells #[.int .i64 47, .int .i64 6, .int .i64 17, .int .i64 1] 3) = w7 at q7 p7 r7 O7 D7 OE7 B7 ⊢
     go_wp2_with (first | (with_reducible refine loadA rfl _ rfl (w2.heap.size + 1) rfl p7.out ?_) | (with_reducible refine loadA rfl _ rfl (w2.heap.size + 1 + 1) rfl r7.out ?_))
     refine Calls.mono (readUB E ec x os ds L N P Q _ s t _ HLL.out HN.out HP.out HQ.out HOK.out HKU.out (by decide) (RB.of_own OE7.out) (own_capB OE7.out).1 (own_capB OE7.out).2) ?_
     rintro e w8 ⟨O8, o8, D8, d8, rfl, oo, od, b8⟩
     have q8 := Lib.hid (K.old (K.below b8 q7.out) (.cells #[.int .i64 x.kind, .int .i64 x.sport, .int .i64 x.dport, .int .i64 x.seq, .int .i64 x.ack, .int .i64 x.bits, .int .i64 x.window, .int .i64 x.urgent, .int .i64 x.ty, .int .i64 x.code, .int .i64 x.rest, .bool x.nosum, .slice O8 P o8, .slice D8 Q d8] 36))
     have O8_ := Lib.hid (World.ownsRow.alloc (own_below O7.out b8) (.cells #[.int .i64 x.kind, .int .i64 x.sport, .int .i64 x.dport, .int .i64 x.seq, .int .i64 x.ack, .int .i64 x.bits, .int .i64 x.window, .int .i64 x.urgent, .int .i64 x.ty, .int .i64 x.code, .int .i64 x.rest, .bool x.nosum, .slice O8 P o8, .slice D8 Q d8] 36))
     have D8_ := Lib.hid (World.ownsRow.alloc (own_below D7.out b8) (.cells #[.int .i64 x.kind, .int .i64 x.sport, .int .i64 x.dport, .int .i64 x.seq, .int .i64 x.ack, .int .i64 x.bits, .int .i64 x.window, .int .i64 x.urgent, .int .i64 x.ty, .int .i64 x.code, .int .i64 x.rest, .bool x.nosum, .slice O8 P o8, .slice D8 Q d8] 36))
     have v8 := Lib.hid (K.new w8 (.cells #[.int .i64 x.kind, .int .i64 x.sport, .int .i64 x.dport, .int .i64 x.seq, .int .i64 x.ack, .int .i64 x.bits, .int .i64 x.window, .int .i64 x.urgent, .int .i64 x.ty, .int .i64 x.code, .int .i64 x.rest, .bool x.nosum, .slice O8 P o8, .slice D8 Q d8] 36))
     have VO := Lib.hid (World.ownsRow.alloc oo (.cells #[.int .i64 x.kind, .int .i64 x.sport, .int .i64 x.dport, .int .i64 x.seq, .int .i64 x.ack, .int .i64 x.bits, .int .i64 x.window, .int .i64 x.urgent, .int .i64 x.ty, .int .i64 x.code, .int .i64 x.rest, .bool x.nosum, .slice O8 P o8, .slice D8 Q d8] 36))
     have VD := Lib.hid (World.ownsRow.alloc od (.cells #[.int .i64 x.kind, .int .i64 x.sport, .int .i64 x.dport, .int .i64 x.seq, .int .i64 x.ack, .int .i64 x.bits, .int .i64 x.window, .int .i64 x.urgent, .int .i64 x.ty, .int .i64 x.code, .int .i64 x.rest, .bool x.nosum, .slice O8 P o8, .slice D8 Q d8] 36))
     have B8 := Lib.hid (bthen (bthen B7.out b8) (Joins.below_alloc1 w8 (.cells #[.int .i64 x.kind, .int .i64 x.sport, .int .i64 x.dport, .int .i64 x.seq, .int .i64 x.ack, .int .i64 x.bits, .int .i64 x.window, .int .i64 x.urgent, .int .i64 x.ty, .int .i64 x.code, .int .i64 x.rest, .bool x.nosum, .slice O8 P o8, .slice D8 Q d8] 36)))
     clear oo od b8 q7 p7 r7 O7 D7 OE7 B7
     go_upto_region 12 with (with_reducible refine storeNewU rfl _ _ rfl rfl rfl ?_)
     generalize w8.alloc (.cells #[.int .i64 x.kind, .int .i64 x.sport, .int .i64 x.dport, .int .i64 x.seq, .int .i64 x.ack, .int .i64 x.bits, .int .i64 x.window, .int .i64 x.urgent, .int .i64 x.ty, .int .i64 x.code, .int .i64 x.rest, .bool x.nosum, .slice O8 P o8, .slice D8 Q d8] 36) = w9 at q8 O8_ D8_ v8 VO VD B8 ⊢
     go_wp2_with (first | (refine loadUGB _ rfl w8.heap.size rfl (by rfl) v8.out ?_) | (refine loadUGB _ rfl w2.heap.size rfl (by rfl) q8.out ?_))
     refine Calls.mono (sameUpC x O8 D8 O D P o8 Q d8 oc d os ds _ (RB.of_own VO.out) (RB.of_own O8_.out) HP.out (RB.of_own VD.out) (RB.of_own D8_.out) HQ.out) ?_
     rintro e w10 ⟨rfl, b10⟩
     have B10 := Lib.hid (bthen B8.out b10)
     clear b10 q8 O8_ D8_ v8 VO VD B8
     go_wp2
     go_ret
     exact ⟨rfl, B10.out⟩
theorem lawUpperBack {w : World} (A : Option Addr) (n c : Nat) (bs : List UInt8) (h : In w A n c bs) : Calls Try.prog 7 #[.slice A n c] w fun e w' => e = .returned (.bool true) ∧ Below w.heap.size w w' := by
  by_cases hb : n ≤ 1048576
  · obtain ⟨x, os, ds, s, t, h1, h2, hd⟩ := drawUB bs (by have := h.len; omega)
    exact lawUB_small A n c bs h.rb h.len hb x os ds s t _ _ rfl rfl h1 h2 hd
  · exact lawUB_big A n c (by omega)
namespace fnUpperBack
open Go.ChangeShapes Go.WideShapes Go.ChangeAt Go.RowKit
open Go.ChangeMaps (open_string shut_string)
theorem own : ownKnob Try.prog.godebug = none := by kernel_rfl
theorem laidOut : laidOutB Try.prog = true := by kernel_rfl
set_option maxRecDepth 100000 in
theorem lifted (os : Os) (started : os.Started) (H : Type) (enc : TypeId × Value → H) :
    ReturnsInHanded {} Try.checked os 7 .any (Rows.fnUpperBackSpec.pre6 enc Try.prog Try.f7 Rows.fnUpperBackRow.domain false) (Rows.fnUpperBackSpec.post enc Try.prog Try.f7 false true false false) := by
  refine returnsInHanded_of_change (C := Try.checked) own started (by kernel_rfl) Try.func7
    (ChangeSpec.witness6 (enc := enc) (C := Try.checked) false ⟨#[], #[.slice none 0 0], []⟩ 8 (by kernel_rfl) (by kernel_rfl) (by kernel_rfl) (by kernel_rfl)) ?_
  intro W base args ds gs before hval0 hW _ _
  have hval : ∀ (j : Nat) t v, Try.f7.params[j]? = some t → args[j]? = some v → Value.okWide Try.prog W .any base t v := hval0
  have hW' := hW
  obtain ⟨p, q, hA0, hV, rfl, _, _⟩ := hW
  have hA : DataW.TrodAll enc Try.prog W 0 (fun _ => true) true Try.f7.params.toList args.toList ds p := hA0
  rw [Try.params7] at hA hval
  obtain ⟨v0, vs0, d0, ds0, p0, q0, hargs, rfl, rfl, h0, r0⟩ := trodAll_cons hA
  obtain ⟨rfl, rfl, rfl⟩ := trodAll_nil r0
  obtain rfl : args = #[v0] := by cases args; simp_all
  obtain ⟨rfl, rfl⟩ := trodVars_none hV
  obtain ⟨a0, n0, c0, rfl⟩ := okWide_slice Try.underlying34 (hval 0 34 v0 rfl rfl)
  have k0 := h0
  have lt0 : ∀ x ∈ p0, x.block < W.heap.size := by obtain ⟨m, hm⟩ := k0; exact DataW.trod_lt m _ _ _ hm
  obtain ⟨b0, w0⟩ := bytes_in h0
  clear hA0 hval0
  refine (lawUpperBack a0 n0 c0 b0 w0).mono fun e W' ⟨he, bel⟩ => ?_
  subst he
  exact ⟨_, rfl, _, _, _, [], _, [], hW', trodAll_mk1 (shut_bool Try.underlying4 _), (trodAll_cons_mk (Below.trod laidOut (by kernel_rfl) (of_decide_eq_true (by kernel_rfl)) k0 bel lt0) trodAll_mk0), rfl, bel.frame _, fun h => by cases h⟩
theorem proved : Rows.FnUpperBackSaid :=
  OpenClaim.holds_of_wide 7 Try.f7 rfl rfl rfl rfl rfl rfl rfl ⟨rfl, rfl, rfl, rfl, rfl⟩ rfl rfl rfl rfl rfl (by kernel_rfl) Try.func7 (by kernel_rfl)
    (of_decide_eq_true (by kernel_rfl)) (by unfold Func.isWrapper; rw [if_neg (of_decide_eq_false (by kernel_rfl))]; exact ⟨rfl, rfl⟩)
    (fun os started H enc _ => lifted os started H enc)
#print axioms proved
end fnUpperBack
end Go.Proofs.Ythogonpjkngpjaa
