/-
  A region that draws its order, the first operations of which leave a value each, or something that holds on, and touch nothing that was there before; the others follow in their order. Plain: any program. The bytes of an upper layer between two addresses, in the program and in the model.
-/
import Derived.Test.YtkmijefheejcjaaKp07
import Derived.Test.YtkmijefheejcjaaKp01
import Derived.Test.YtkmijefheejcjaaKp32
import Derived.Test.YtkmijefheejcjaaKp33
namespace Go.Proofs.Ytkmijefheejcjaa
set_option maxRecDepth 100000
open Go.RowKit

/-- What an operation leaves: a value; something that holds on while nothing old is turned; anything. -/
inductive Fp where
  | val (v : Value)
  | pr (f : World → Value → Prop) (h : ∀ w w' v, Below w.heap.size w w' → f w v → f w' v)
  | any
def Fp.holds : Fp → World → Value → Prop
  | .val u, _, v => v = u
  | .pr f _, w, v => f w v
  | .any, _, _ => True
theorem Fp.on {w w' : World} (hb : Below w.heap.size w w') (f : Fp) (v : Value) (h : f.holds w v) : f.holds w' v := by
  cases f with
  | val u => exact h
  | pr f k => exact k w w' v hb h
  | any => trivial

section
variable {P : Program} {ops : Array Oper} {Q : Exit → Act → World → Prop}
theorem wp_region_prs {id : Nat} {a : Act} {w : World} (hmx : P.follows .mixedOrders = true) (k n : Nat) (L : List (Nat × Nat)) (R : List Oper) (F : List Fp) (hf : thenB ops n k = true) (hL : dstsOf ops k = L) (hR : ops.toList.drop k = R) (hn : a.tmps.size = n)
    (hop : ∀ (j : Nat) o, j < k → ops[j]? = some o → ∀ a' v K, (∀ t, (∀ p ∈ L, p.2 ≠ t) → a'.tmps.getD t undef = a.tmps.getD t undef) → (∀ p ∈ needOf ops j, (F.getD p.1 .any).holds v (a'.tmps.getD p.2 undef)) → Below w.heap.size w v →
      (∀ u v', (F.getD j .any).holds v' u → Below v.heap.size v v' → K (a'.put o.dst u) v') → o.wp P a' v K Q)
    (hend : ∀ (f : Nat → Value) v, (∀ p ∈ L, (F.getD p.1 .any).holds v (f p.1)) → Below w.heap.size w v → wpList P ops Q R (L.foldl (fun b p => b.put (some p.2) (f p.1)) a) v) : (Code.region id ops true).wp P Q a w := by
  refine wp_region_then hmx k n L R hf hL hR (fun j v u => (F.getD j .any).holds v u) (fun v => Below w.heap.size w v) hn ⟨rfl, rfl, rfl, Nat.le_refl _, fun _ _ => rfl⟩ ?_ (fun f v hf hB => hend f v hf hB)
  intro j o hj ho a' v K hk hnd hB hK
  exact hop j o hj ho a' v K hk hnd hB (fun u v' hu hb => hK u v' hu (fun i x hx => Fp.on hb _ _ hx) (bthen hB hb))
theorem prs_of {j : Nat} {F : List Fp} {v : World} {a' : Act} (hnd : ∀ p ∈ needOf ops j, (F.getD p.1 .any).holds v (a'.tmps.getD p.2 undef)) (i t : Nat) (h : (needOf ops j).contains (i, t) = true) : (F.getD i .any).holds v (a'.eval (.tmp t)) :=
  hnd (i, t) (by simpa using h)
end
end Go.Proofs.Ytkmijefheejcjaa

namespace Go.Proofs.Ytkmijefheejcjaa
set_option maxRecDepth 100000
open Go.RowKit

/-- The bytes of an upper layer between two addresses: none, if it is not valid there. -/
def Uh.out (x : Uh) (o bs : List UInt8) (a b : Ad) : List UInt8 := if (pairA a b && x.ok a.k o.length bs.length) = true then x.enc o bs (x.sum o bs a b) else []
theorem Uh.sum_range {x : Uh} {o bs : List UInt8} {a b : Ad} (h : (pairA a b && x.ok a.k o.length bs.length) = true) : 0 ≤ x.sum o bs a b ∧ x.sum o bs a b ≤ 65535 := by
  by_cases k : x.kind = 0 ∨ x.nosum = true
  · rw [Uh.sum_zero h k]; omega
  · rw [Uh.sum_yes h k]
    have h2 : pairA a b = true ∧ x.ok a.k o.length bs.length = true := by simpa using h
    have hw := isWord_iff.1 (sadd_word (Uh.top_word h2.1 h2.2) (Uh.enc_word h2.2 0))
    unfold udp0
    split <;> omega
theorem Uh.out_len {x : Uh} {o bs : List UInt8} {a b : Ad} : (x.out o bs a b).length ≤ 1500 := by
  unfold Uh.out
  split
  · rename_i h
    have h2 : pairA a b = true ∧ x.ok a.k o.length bs.length = true := by simpa using h
    have h3 := Uh.enc_len x o bs (x.sum o bs a b) (Uh.ok_kind h2.2)
    have h4 := Uh.ok_room h2.2
    omega
  · simp

set_option maxHeartbeats 2000000 in
theorem ubI_no (x : Uh) (s t : Ad) (A D : Option Addr) (n c m d : Nat) (os bs : List UInt8) (w : World) (hr : RB w w.heap.size A os) (hl : os.length = n) (hs : RB w w.heap.size D bs) (hm : bs.length = m) (hn : n ≤ 1048576) (hm2 : m ≤ 1048576) (hk : (pairA s t && x.ok s.k n m) = false) : Calls Try.prog 23 #[.agg #[.int .i64 x.kind, .int .i64 x.sport, .int .i64 x.dport, .int .i64 x.seq, .int .i64 x.ack, .int .i64 x.bits, .int .i64 x.window, .int .i64 x.urgent, .int .i64 x.ty, .int .i64 x.code, .int .i64 x.rest, .bool x.nosum, .slice A n c, .slice D m d], .agg #[.int .i64 s.k, .int .i64 s.a, .int .i64 s.b, .int .i64 s.c, .int .i64 s.d], .agg #[.int .i64 t.k, .int .i64 t.a, .int .i64 t.b, .int .i64 t.c, .int .i64 t.d]] w (EncOut (x.out os bs s t) w) := by
  have HA := Lib.hid hr
  have HD := Lib.hid hs
  have HL := Lib.hid hl
  have HM := Lib.hid hm
  have HO := Lib.hid (show x.out os bs s t = [] by unfold Uh.out; rw [hl, hm, if_neg (by simp [hk])])
  have HS := Lib.hid (Uh.sum_no (x := x) (o := os) (bs := bs) (a := s) (b := t) (by rw [hl, hm]; exact hk))
  clear hr hs hl hm hk
  have q0 : Hid ((((w.alloc (.cells #[.int .i64 x.kind, .int .i64 x.sport, .int .i64 x.dport, .int .i64 x.seq, .int .i64 x.ack, .int .i64 x.bits, .int .i64 x.window, .int .i64 x.urgent, .int .i64 x.ty, .int .i64 x.code, .int .i64 x.rest, .bool x.nosum, .slice A n c, .slice D m d] 38)).alloc (.cells #[.int .i64 s.k, .int .i64 s.a, .int .i64 s.b, .int .i64 s.c, .int .i64 s.d] 25)).alloc (.cells #[.int .i64 t.k, .int .i64 t.a, .int .i64 t.b, .int .i64 t.c, .int .i64 t.d] 25)).heap[w.heap.size]? = some (.cells #[.int .i64 x.kind, .int .i64 x.sport, .int .i64 x.dport, .int .i64 x.seq, .int .i64 x.ack, .int .i64 x.bits, .int .i64 x.window, .int .i64 x.urgent, .int .i64 x.ty, .int .i64 x.code, .int .i64 x.rest, .bool x.nosum, .slice A n c, .slice D m d] 38)) := Lib.hid (by repeat (first | exact K.newAt (by first | rfl | (simp; done)) | refine K.oldAt (by first | (simp; done) | (simp; omega)) ?_))
  have q1 : Hid ((((w.alloc (.cells #[.int .i64 x.kind, .int .i64 x.sport, .int .i64 x.dport, .int .i64 x.seq, .int .i64 x.ack, .int .i64 x.bits, .int .i64 x.window, .int .i64 x.urgent, .int .i64 x.ty, .int .i64 x.code, .int .i64 x.rest, .bool x.nosum, .slice A n c, .slice D m d] 38)).alloc (.cells #[.int .i64 s.k, .int .i64 s.a, .int .i64 s.b, .int .i64 s.c, .int .i64 s.d] 25)).alloc (.cells #[.int .i64 t.k, .int .i64 t.a, .int .i64 t.b, .int .i64 t.c, .int .i64 t.d] 25)).heap[w.heap.size + 1]? = some (.cells #[.int .i64 s.k, .int .i64 s.a, .int .i64 s.b, .int .i64 s.c, .int .i64 s.d] 25)) := Lib.hid (by repeat (first | exact K.newAt (by first | rfl | (simp; done)) | refine K.oldAt (by first | (simp; done) | (simp; omega)) ?_))
  have q2 : Hid ((((w.alloc (.cells #[.int .i64 x.kind, .int .i64 x.sport, .int .i64 x.dport, .int .i64 x.seq, .int .i64 x.ack, .int .i64 x.bits, .int .i64 x.window, .int .i64 x.urgent, .int .i64 x.ty, .int .i64 x.code, .int .i64 x.rest, .bool x.nosum, .slice A n c, .slice D m d] 38)).alloc (.cells #[.int .i64 s.k, .int .i64 s.a, .int .i64 s.b, .int .i64 s.c, .int .i64 s.d] 25)).alloc (.cells #[.int .i64 t.k, .int .i64 t.a, .int .i64 t.b, .int .i64 t.c, .int .i64 t.d] 25)).heap[w.heap.size + 1 + 1]? = some (.cells #[.int .i64 t.k, .int .i64 t.a, .int .i64 t.b, .int .i64 t.c, .int .i64 t.d] 25)) := Lib.hid (by repeat (first | exact K.newAt (by first | rfl | (simp; done)) | refine K.oldAt (by first | (simp; done) | (simp; omega)) ?_))
  have HB : Hid (Below w.heap.size w (((w.alloc (.cells #[.int .i64 x.kind, .int .i64 x.sport, .int .i64 x.dport, .int .i64 x.seq, .int .i64 x.ack, .int .i64 x.bits, .int .i64 x.window, .int .i64 x.urgent, .int .i64 x.ty, .int .i64 x.code, .int .i64 x.rest, .bool x.nosum, .slice A n c, .slice D m d] 38)).alloc (.cells #[.int .i64 s.k, .int .i64 s.a, .int .i64 s.b, .int .i64 s.c, .int .i64 s.d] 25)).alloc (.cells #[.int .i64 t.k, .int .i64 t.a, .int .i64 t.b, .int .i64 t.c, .int .i64 t.d] 25))) := Lib.hid (by go_grown)
  go_enter Try.func23, Try.ntmps23
  go_wp2_with (first | (with_reducible refine loadU rfl _ rfl w.heap.size rfl q0.out ?_) | (with_reducible refine loadA rfl _ rfl (w.heap.size + 1) rfl q1.out ?_) | (with_reducible refine loadA rfl _ rfl (w.heap.size + 2) rfl q2.out ?_))
  refine Calls.mono (usI x s t A D n c m d os bs _ ((HA.out.below HB.out).more HB.out.size) HL.out ((HD.out.below HB.out).more HB.out.size) HM.out hn hm2) ?_
  rintro e w1 ⟨rfl, b1⟩
  have B1 := Lib.hid (bthen HB.out b1)
  clear b1 q0 q1 q2 HB
  rw [HS.out]
  go_wp2
  go_ret
  exact encOut HO.out.symm rfl ⟨⟨rfl, .inl ⟨rfl, rfl⟩⟩, B1.out⟩

set_option maxHeartbeats 2000000 in
theorem ubI_yes (x : Uh) (s t : Ad) (A D : Option Addr) (n c m d : Nat) (os bs : List UInt8) (w : World) (hr : RB w w.heap.size A os) (hl : os.length = n) (hs : RB w w.heap.size D bs) (hm : bs.length = m) (hn : n ≤ 1048576) (hm2 : m ≤ 1048576) (hk : (pairA s t && x.ok s.k n m) = true) : Calls Try.prog 23 #[.agg #[.int .i64 x.kind, .int .i64 x.sport, .int .i64 x.dport, .int .i64 x.seq, .int .i64 x.ack, .int .i64 x.bits, .int .i64 x.window, .int .i64 x.urgent, .int .i64 x.ty, .int .i64 x.code, .int .i64 x.rest, .bool x.nosum, .slice A n c, .slice D m d], .agg #[.int .i64 s.k, .int .i64 s.a, .int .i64 s.b, .int .i64 s.c, .int .i64 s.d], .agg #[.int .i64 t.k, .int .i64 t.a, .int .i64 t.b, .int .i64 t.c, .int .i64 t.d]] w (EncOut (x.out os bs s t) w) := by
  have HA := Lib.hid hr
  have HD := Lib.hid hs
  have HL := Lib.hid hl
  have HM := Lib.hid hm
  have h2 : pairA s t = true ∧ x.ok s.k n m = true := by simpa using hk
  have HK := Lib.hid h2.2
  have HO := Lib.hid (show x.out os bs s t = x.enc os bs (x.sum os bs s t) by unfold Uh.out; rw [hl, hm, if_pos hk])
  have hq := Uh.sum_range (x := x) (o := os) (bs := bs) (a := s) (b := t) (by rw [hl, hm]; exact hk)
  obtain ⟨q, hqq⟩ : ∃ q, x.sum os bs s t = q := ⟨_, rfl⟩
  rw [hqq] at hq HO
  have HQ := Lib.hid hqq
  have hq1 : ¬ q = -1 := by omega
  clear hr hs hl hm hk h2 hqq
  have q0 : Hid ((((w.alloc (.cells #[.int .i64 x.kind, .int .i64 x.sport, .int .i64 x.dport, .int .i64 x.seq, .int .i64 x.ack, .int .i64 x.bits, .int .i64 x.window, .int .i64 x.urgent, .int .i64 x.ty, .int .i64 x.code, .int .i64 x.rest, .bool x.nosum, .slice A n c, .slice D m d] 38)).alloc (.cells #[.int .i64 s.k, .int .i64 s.a, .int .i64 s.b, .int .i64 s.c, .int .i64 s.d] 25)).alloc (.cells #[.int .i64 t.k, .int .i64 t.a, .int .i64 t.b, .int .i64 t.c, .int .i64 t.d] 25)).heap[w.heap.size]? = some (.cells #[.int .i64 x.kind, .int .i64 x.sport, .int .i64 x.dport, .int .i64 x.seq, .int .i64 x.ack, .int .i64 x.bits, .int .i64 x.window, .int .i64 x.urgent, .int .i64 x.ty, .int .i64 x.code, .int .i64 x.rest, .bool x.nosum, .slice A n c, .slice D m d] 38)) := Lib.hid (by repeat (first | exact K.newAt (by first | rfl | (simp; done)) | refine K.oldAt (by first | (simp; done) | (simp; omega)) ?_))
  have q1 : Hid ((((w.alloc (.cells #[.int .i64 x.kind, .int .i64 x.sport, .int .i64 x.dport, .int .i64 x.seq, .int .i64 x.ack, .int .i64 x.bits, .int .i64 x.window, .int .i64 x.urgent, .int .i64 x.ty, .int .i64 x.code, .int .i64 x.rest, .bool x.nosum, .slice A n c, .slice D m d] 38)).alloc (.cells #[.int .i64 s.k, .int .i64 s.a, .int .i64 s.b, .int .i64 s.c, .int .i64 s.d] 25)).alloc (.cells #[.int .i64 t.k, .int .i64 t.a, .int .i64 t.b, .int .i64 t.c, .int .i64 t.d] 25)).heap[w.heap.size + 1]? = some (.cells #[.int .i64 s.k, .int .i64 s.a, .int .i64 s.b, .int .i64 s.c, .int .i64 s.d] 25)) := Lib.hid (by repeat (first | exact K.newAt (by first | rfl | (simp; done)) | refine K.oldAt (by first | (simp; done) | (simp; omega)) ?_))
  have q2 : Hid ((((w.alloc (.cells #[.int .i64 x.kind, .int .i64 x.sport, .int .i64 x.dport, .int .i64 x.seq, .int .i64 x.ack, .int .i64 x.bits, .int .i64 x.window, .int .i64 x.urgent, .int .i64 x.ty, .int .i64 x.code, .int .i64 x.rest, .bool x.nosum, .slice A n c, .slice D m d] 38)).alloc (.cells #[.int .i64 s.k, .int .i64 s.a, .int .i64 s.b, .int .i64 s.c, .int .i64 s.d] 25)).alloc (.cells #[.int .i64 t.k, .int .i64 t.a, .int .i64 t.b, .int .i64 t.c, .int .i64 t.d] 25)).heap[w.heap.size + 1 + 1]? = some (.cells #[.int .i64 t.k, .int .i64 t.a, .int .i64 t.b, .int .i64 t.c, .int .i64 t.d] 25)) := Lib.hid (by repeat (first | exact K.newAt (by first | rfl | (simp; done)) | refine K.oldAt (by first | (simp; done) | (simp; omega)) ?_))
  have HB : Hid (Below w.heap.size w (((w.alloc (.cells #[.int .i64 x.kind, .int .i64 x.sport, .int .i64 x.dport, .int .i64 x.seq, .int .i64 x.ack, .int .i64 x.bits, .int .i64 x.window, .int .i64 x.urgent, .int .i64 x.ty, .int .i64 x.code, .int .i64 x.rest, .bool x.nosum, .slice A n c, .slice D m d] 38)).alloc (.cells #[.int .i64 s.k, .int .i64 s.a, .int .i64 s.b, .int .i64 s.c, .int .i64 s.d] 25)).alloc (.cells #[.int .i64 t.k, .int .i64 t.a, .int .i64 t.b, .int .i64 t.c, .int .i64 t.d] 25))) := Lib.hid (by go_grown)
  go_enter Try.func23, Try.ntmps23
  go_wp2_with (first | (with_reducible refine loadU rfl _ rfl w.heap.size rfl q0.out ?_) | (with_reducible refine loadA rfl _ rfl (w.heap.size + 1) rfl q1.out ?_) | (with_reducible refine loadA rfl _ rfl (w.heap.size + 2) rfl q2.out ?_))
  refine Calls.mono (usI x s t A D n c m d os bs _ ((HA.out.below HB.out).more HB.out.size) HL.out ((HD.out.below HB.out).more HB.out.size) HM.out hn hm2) ?_
  rintro e w1 ⟨rfl, b1⟩
  have B1 := Lib.hid (bthen HB.out b1)
  have r0 := Lib.hid (K.below b1 q0.out)
  clear b1 q0 q1 q2 HB
  rw [HQ.out]
  go_wp2_with (with_reducible refine loadU rfl _ rfl w.heap.size rfl r0.out ?_)
  refine Calls.mono (encI x s.k q A D n c m d os bs _ ((HA.out.below B1.out).more B1.out.size) HL.out ((HD.out.below B1.out).more B1.out.size) HM.out HK.out) ?_
  rintro e w2 ⟨A2, c2, rfl, o2, b2⟩
  have O2 := Lib.hid o2
  have B2 := Lib.hid (bthen B1.out b2)
  have L1 := Lib.hid B1.out.size
  clear o2 b2
  go_wp2
  go_ret
  exact encOut HO.out.symm rfl ⟨own_base O2.out L1.out, B2.out⟩
theorem ubI (x : Uh) (s t : Ad) (A D : Option Addr) (n c m d : Nat) (os bs : List UInt8) (w : World) (hr : RB w w.heap.size A os) (hl : os.length = n) (hs : RB w w.heap.size D bs) (hm : bs.length = m) (hn : n ≤ 1048576) (hm2 : m ≤ 1048576) : Calls Try.prog 23 #[.agg #[.int .i64 x.kind, .int .i64 x.sport, .int .i64 x.dport, .int .i64 x.seq, .int .i64 x.ack, .int .i64 x.bits, .int .i64 x.window, .int .i64 x.urgent, .int .i64 x.ty, .int .i64 x.code, .int .i64 x.rest, .bool x.nosum, .slice A n c, .slice D m d], .agg #[.int .i64 s.k, .int .i64 s.a, .int .i64 s.b, .int .i64 s.c, .int .i64 s.d], .agg #[.int .i64 t.k, .int .i64 t.a, .int .i64 t.b, .int .i64 t.c, .int .i64 t.d]] w (EncOut (x.out os bs s t) w) := by
  cases hk : (pairA s t && x.ok s.k n m) with
  | false => exact ubI_no x s t A D n c m d os bs w hr hl hs hm hn hm2 hk
  | true => exact ubI_yes x s t A D n c m d os bs w hr hl hs hm hn hm2 hk

set_option maxHeartbeats 2000000 in
theorem ubS_no (x : Uh) (s t : Ad) (A D : Option Addr) (n c m d : Nat) (os bs : List UInt8) (w : World) (hr : RB w w.heap.size A os) (hl : os.length = n) (hs : RB w w.heap.size D bs) (hm : bs.length = m) (hn : n ≤ 1048576) (hm2 : m ≤ 1048576) (hk : (pairA s t && x.ok s.k n m) = false) : Calls Try.prog 49 #[.agg #[.int .i64 x.kind, .int .i64 x.sport, .int .i64 x.dport, .int .i64 x.seq, .int .i64 x.ack, .int .i64 x.bits, .int .i64 x.window, .int .i64 x.urgent, .int .i64 x.ty, .int .i64 x.code, .int .i64 x.rest, .bool x.nosum, .slice A n c, .slice D m d], .agg #[.int .i64 s.k, .int .i64 s.a, .int .i64 s.b, .int .i64 s.c, .int .i64 s.d], .agg #[.int .i64 t.k, .int .i64 t.a, .int .i64 t.b, .int .i64 t.c, .int .i64 t.d]] w (EncOut (x.out os bs s t) w) := by
  have HA := Lib.hid hr
  have HD := Lib.hid hs
  have HL := Lib.hid hl
  have HM := Lib.hid hm
  have HO := Lib.hid (show x.out os bs s t = [] by unfold Uh.out; rw [hl, hm, if_neg (by simp [hk])])
  have HS := Lib.hid (Uh.sum_no (x := x) (o := os) (bs := bs) (a := s) (b := t) (by rw [hl, hm]; exact hk))
  clear hr hs hl hm hk
  have q0 : Hid ((((w.alloc (.cells #[.int .i64 x.kind, .int .i64 x.sport, .int .i64 x.dport, .int .i64 x.seq, .int .i64 x.ack, .int .i64 x.bits, .int .i64 x.window, .int .i64 x.urgent, .int .i64 x.ty, .int .i64 x.code, .int .i64 x.rest, .bool x.nosum, .slice A n c, .slice D m d] 38)).alloc (.cells #[.int .i64 s.k, .int .i64 s.a, .int .i64 s.b, .int .i64 s.c, .int .i64 s.d] 25)).alloc (.cells #[.int .i64 t.k, .int .i64 t.a, .int .i64 t.b, .int .i64 t.c, .int .i64 t.d] 25)).heap[w.heap.size]? = some (.cells #[.int .i64 x.kind, .int .i64 x.sport, .int .i64 x.dport, .int .i64 x.seq, .int .i64 x.ack, .int .i64 x.bits, .int .i64 x.window, .int .i64 x.urgent, .int .i64 x.ty, .int .i64 x.code, .int .i64 x.rest, .bool x.nosum, .slice A n c, .slice D m d] 38)) := Lib.hid (by repeat (first | exact K.newAt (by first | rfl | (simp; done)) | refine K.oldAt (by first | (simp; done) | (simp; omega)) ?_))
  have q1 : Hid ((((w.alloc (.cells #[.int .i64 x.kind, .int .i64 x.sport, .int .i64 x.dport, .int .i64 x.seq, .int .i64 x.ack, .int .i64 x.bits, .int .i64 x.window, .int .i64 x.urgent, .int .i64 x.ty, .int .i64 x.code, .int .i64 x.rest, .bool x.nosum, .slice A n c, .slice D m d] 38)).alloc (.cells #[.int .i64 s.k, .int .i64 s.a, .int .i64 s.b, .int .i64 s.c, .int .i64 s.d] 25)).alloc (.cells #[.int .i64 t.k, .int .i64 t.a, .int .i64 t.b, .int .i64 t.c, .int .i64 t.d] 25)).heap[w.heap.size + 1]? = some (.cells #[.int .i64 s.k, .int .i64 s.a, .int .i64 s.b, .int .i64 s.c, .int .i64 s.d] 25)) := Lib.hid (by repeat (first | exact K.newAt (by first | rfl | (simp; done)) | refine K.oldAt (by first | (simp; done) | (simp; omega)) ?_))
  have q2 : Hid ((((w.alloc (.cells #[.int .i64 x.kind, .int .i64 x.sport, .int .i64 x.dport, .int .i64 x.seq, .int .i64 x.ack, .int .i64 x.bits, .int .i64 x.window, .int .i64 x.urgent, .int .i64 x.ty, .int .i64 x.code, .int .i64 x.rest, .bool x.nosum, .slice A n c, .slice D m d] 38)).alloc (.cells #[.int .i64 s.k, .int .i64 s.a, .int .i64 s.b, .int .i64 s.c, .int .i64 s.d] 25)).alloc (.cells #[.int .i64 t.k, .int .i64 t.a, .int .i64 t.b, .int .i64 t.c, .int .i64 t.d] 25)).heap[w.heap.size + 1 + 1]? = some (.cells #[.int .i64 t.k, .int .i64 t.a, .int .i64 t.b, .int .i64 t.c, .int .i64 t.d] 25)) := Lib.hid (by repeat (first | exact K.newAt (by first | rfl | (simp; done)) | refine K.oldAt (by first | (simp; done) | (simp; omega)) ?_))
  have HB : Hid (Below w.heap.size w (((w.alloc (.cells #[.int .i64 x.kind, .int .i64 x.sport, .int .i64 x.dport, .int .i64 x.seq, .int .i64 x.ack, .int .i64 x.bits, .int .i64 x.window, .int .i64 x.urgent, .int .i64 x.ty, .int .i64 x.code, .int .i64 x.rest, .bool x.nosum, .slice A n c, .slice D m d] 38)).alloc (.cells #[.int .i64 s.k, .int .i64 s.a, .int .i64 s.b, .int .i64 s.c, .int .i64 s.d] 25)).alloc (.cells #[.int .i64 t.k, .int .i64 t.a, .int .i64 t.b, .int .i64 t.c, .int .i64 t.d] 25))) := Lib.hid (by go_grown)
  go_enter Try.func49, Try.ntmps49
  go_wp2_with (first | (with_reducible refine loadU rfl _ rfl w.heap.size rfl q0.out ?_) | (with_reducible refine loadA rfl _ rfl (w.heap.size + 1) rfl q1.out ?_) | (with_reducible refine loadA rfl _ rfl (w.heap.size + 2) rfl q2.out ?_))
  refine Calls.mono (usS x s t A D n c m d os bs _ ((HA.out.below HB.out).more HB.out.size) HL.out ((HD.out.below HB.out).more HB.out.size) HM.out hn hm2) ?_
  rintro e w1 ⟨rfl, b1⟩
  have B1 := Lib.hid (bthen HB.out b1)
  clear b1 q0 q1 q2 HB
  rw [HS.out]
  go_wp2
  go_ret
  exact encOut HO.out.symm rfl ⟨⟨rfl, .inl ⟨rfl, rfl⟩⟩, B1.out⟩

set_option maxHeartbeats 2000000 in
theorem ubS_yes (x : Uh) (s t : Ad) (A D : Option Addr) (n c m d : Nat) (os bs : List UInt8) (w : World) (hr : RB w w.heap.size A os) (hl : os.length = n) (hs : RB w w.heap.size D bs) (hm : bs.length = m) (hn : n ≤ 1048576) (hm2 : m ≤ 1048576) (hk : (pairA s t && x.ok s.k n m) = true) : Calls Try.prog 49 #[.agg #[.int .i64 x.kind, .int .i64 x.sport, .int .i64 x.dport, .int .i64 x.seq, .int .i64 x.ack, .int .i64 x.bits, .int .i64 x.window, .int .i64 x.urgent, .int .i64 x.ty, .int .i64 x.code, .int .i64 x.rest, .bool x.nosum, .slice A n c, .slice D m d], .agg #[.int .i64 s.k, .int .i64 s.a, .int .i64 s.b, .int .i64 s.c, .int .i64 s.d], .agg #[.int .i64 t.k, .int .i64 t.a, .int .i64 t.b, .int .i64 t.c, .int .i64 t.d]] w (EncOut (x.out os bs s t) w) := by
  have HA := Lib.hid hr
  have HD := Lib.hid hs
  have HL := Lib.hid hl
  have HM := Lib.hid hm
  have h2 : pairA s t = true ∧ x.ok s.k n m = true := by simpa using hk
  have HK := Lib.hid h2.2
  have HO := Lib.hid (show x.out os bs s t = x.enc os bs (x.sum os bs s t) by unfold Uh.out; rw [hl, hm, if_pos hk])
  have hq := Uh.sum_range (x := x) (o := os) (bs := bs) (a := s) (b := t) (by rw [hl, hm]; exact hk)
  obtain ⟨q, hqq⟩ : ∃ q, x.sum os bs s t = q := ⟨_, rfl⟩
  rw [hqq] at hq HO
  have HQ := Lib.hid hqq
  have hq1 : ¬ q = -1 := by omega
  clear hr hs hl hm hk h2 hqq
  have q0 : Hid ((((w.alloc (.cells #[.int .i64 x.kind, .int .i64 x.sport, .int .i64 x.dport, .int .i64 x.seq, .int .i64 x.ack, .int .i64 x.bits, .int .i64 x.window, .int .i64 x.urgent, .int .i64 x.ty, .int .i64 x.code, .int .i64 x.rest, .bool x.nosum, .slice A n c, .slice D m d] 38)).alloc (.cells #[.int .i64 s.k, .int .i64 s.a, .int .i64 s.b, .int .i64 s.c, .int .i64 s.d] 25)).alloc (.cells #[.int .i64 t.k, .int .i64 t.a, .int .i64 t.b, .int .i64 t.c, .int .i64 t.d] 25)).heap[w.heap.size]? = some (.cells #[.int .i64 x.kind, .int .i64 x.sport, .int .i64 x.dport, .int .i64 x.seq, .int .i64 x.ack, .int .i64 x.bits, .int .i64 x.window, .int .i64 x.urgent, .int .i64 x.ty, .int .i64 x.code, .int .i64 x.rest, .bool x.nosum, .slice A n c, .slice D m d] 38)) := Lib.hid (by repeat (first | exact K.newAt (by first | rfl | (simp; done)) | refine K.oldAt (by first | (simp; done) | (simp; omega)) ?_))
  have q1 : Hid ((((w.alloc (.cells #[.int .i64 x.kind, .int .i64 x.sport, .int .i64 x.dport, .int .i64 x.seq, .int .i64 x.ack, .int .i64 x.bits, .int .i64 x.window, .int .i64 x.urgent, .int .i64 x.ty, .int .i64 x.code, .int .i64 x.rest, .bool x.nosum, .slice A n c, .slice D m d] 38)).alloc (.cells #[.int .i64 s.k, .int .i64 s.a, .int .i64 s.b, .int .i64 s.c, .int .i64 s.d] 25)).alloc (.cells #[.int .i64 t.k, .int .i64 t.a, .int .i64 t.b, .int .i64 t.c, .int .i64 t.d] 25)).heap[w.heap.size + 1]? = some (.cells #[.int .i64 s.k, .int .i64 s.a, .int .i64 s.b, .int .i64 s.c, .int .i64 s.d] 25)) := Lib.hid (by repeat (first | exact K.newAt (by first | rfl | (simp; done)) | refine K.oldAt (by first | (simp; done) | (simp; omega)) ?_))
  have q2 : Hid ((((w.alloc (.cells #[.int .i64 x.kind, .int .i64 x.sport, .int .i64 x.dport, .int .i64 x.seq, .int .i64 x.ack, .int .i64 x.bits, .int .i64 x.window, .int .i64 x.urgent, .int .i64 x.ty, .int .i64 x.code, .int .i64 x.rest, .bool x.nosum, .slice A n c, .slice D m d] 38)).alloc (.cells #[.int .i64 s.k, .int .i64 s.a, .int .i64 s.b, .int .i64 s.c, .int .i64 s.d] 25)).alloc (.cells #[.int .i64 t.k, .int .i64 t.a, .int .i64 t.b, .int .i64 t.c, .int .i64 t.d] 25)).heap[w.heap.size + 1 + 1]? = some (.cells #[.int .i64 t.k, .int .i64 t.a, .int .i64 t.b, .int .i64 t.c, .int .i64 t.d] 25)) := Lib.hid (by repeat (first | exact K.newAt (by first | rfl | (simp; done)) | refine K.oldAt (by first | (simp; done) | (simp; omega)) ?_))
  have HB : Hid (Below w.heap.size w (((w.alloc (.cells #[.int .i64 x.kind, .int .i64 x.sport, .int .i64 x.dport, .int .i64 x.seq, .int .i64 x.ack, .int .i64 x.bits, .int .i64 x.window, .int .i64 x.urgent, .int .i64 x.ty, .int .i64 x.code, .int .i64 x.rest, .bool x.nosum, .slice A n c, .slice D m d] 38)).alloc (.cells #[.int .i64 s.k, .int .i64 s.a, .int .i64 s.b, .int .i64 s.c, .int .i64 s.d] 25)).alloc (.cells #[.int .i64 t.k, .int .i64 t.a, .int .i64 t.b, .int .i64 t.c, .int .i64 t.d] 25))) := Lib.hid (by go_grown)
  go_enter Try.func49, Try.ntmps49
  go_wp2_with (first | (with_reducible refine loadU rfl _ rfl w.heap.size rfl q0.out ?_) | (with_reducible refine loadA rfl _ rfl (w.heap.size + 1) rfl q1.out ?_) | (with_reducible refine loadA rfl _ rfl (w.heap.size + 2) rfl q2.out ?_))
  refine Calls.mono (usS x s t A D n c m d os bs _ ((HA.out.below HB.out).more HB.out.size) HL.out ((HD.out.below HB.out).more HB.out.size) HM.out hn hm2) ?_
  rintro e w1 ⟨rfl, b1⟩
  have B1 := Lib.hid (bthen HB.out b1)
  have r0 := Lib.hid (K.below b1 q0.out)
  clear b1 q0 q1 q2 HB
  rw [HQ.out]
  go_wp2_with (with_reducible refine loadU rfl _ rfl w.heap.size rfl r0.out ?_)
  refine Calls.mono (encS x s.k q A D n c m d os bs _ ((HA.out.below B1.out).more B1.out.size) HL.out ((HD.out.below B1.out).more B1.out.size) HM.out HK.out) ?_
  rintro e w2 ⟨A2, c2, rfl, o2, b2⟩
  have O2 := Lib.hid o2
  have B2 := Lib.hid (bthen B1.out b2)
  have L1 := Lib.hid B1.out.size
  clear o2 b2
  go_wp2
  go_ret
  exact encOut HO.out.symm rfl ⟨own_base O2.out L1.out, B2.out⟩
theorem ubS (x : Uh) (s t : Ad) (A D : Option Addr) (n c m d : Nat) (os bs : List UInt8) (w : World) (hr : RB w w.heap.size A os) (hl : os.length = n) (hs : RB w w.heap.size D bs) (hm : bs.length = m) (hn : n ≤ 1048576) (hm2 : m ≤ 1048576) : Calls Try.prog 49 #[.agg #[.int .i64 x.kind, .int .i64 x.sport, .int .i64 x.dport, .int .i64 x.seq, .int .i64 x.ack, .int .i64 x.bits, .int .i64 x.window, .int .i64 x.urgent, .int .i64 x.ty, .int .i64 x.code, .int .i64 x.rest, .bool x.nosum, .slice A n c, .slice D m d], .agg #[.int .i64 s.k, .int .i64 s.a, .int .i64 s.b, .int .i64 s.c, .int .i64 s.d], .agg #[.int .i64 t.k, .int .i64 t.a, .int .i64 t.b, .int .i64 t.c, .int .i64 t.d]] w (EncOut (x.out os bs s t) w) := by
  cases hk : (pairA s t && x.ok s.k n m) with
  | false => exact ubS_no x s t A D n c m d os bs w hr hl hs hm hn hm2 hk
  | true => exact ubS_yes x s t A D n c m d os bs w hr hl hs hm hn hm2 hk
end Go.Proofs.Ytkmijefheejcjaa
