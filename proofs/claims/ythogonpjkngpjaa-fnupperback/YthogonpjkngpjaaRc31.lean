/-
  The bytes of an upper layer between two addresses, in the program and in the model. Ethernet frames as four integers and a body. Plain: nothing here speaks of the program. The program's reader over bytes: the next number, what is left, a copy of the next bytes. What bytes are read as: a head, a body, a code. Plain: nothing here speaks of the program. AddrOf in the program. The program's reader of packets: it holds the reader of frames as its first field. The packet reader splits two bytes behind the first four bits. What the program reads behind the length of an IPv4 head. What bytes are read as: an IPv4 head, options, a body, the rest, a code. Plain: nothing here speaks of the program. FourOk in the model. FourOk in the program. FourOk in the program.
-/
import Derived.Test.YthogonpjkngpjaaRc29
import Derived.Test.YthogonpjkngpjaaRc30
import Derived.Test.YthogonpjkngpjaaRc02
import Derived.Test.YthogonpjkngpjaaRc03
import Derived.Deep.QuietTactic
import Derived.BigQuiet
import Derived.StillTailTactics
import Derived.Lib.SliceRun
import Derived.Test.YthogonpjkngpjaaRc04
import Derived.Deep.Cut
import Derived.Test.YthogonpjkngpjaaRc08
import Derived.Lib.QuietBelow
namespace Go.Proofs.Ythogonpjkngpjaa
set_option maxRecDepth 100000
open Go.RowKit
def Uh.out (x : Uh) (o bs : List UInt8) (a b : Ad) : List UInt8 := if (pairA a b && x.ok a.k o.length bs.length) = true then x.enc o bs (x.sum o bs a b) else []
theorem Uh.sum_range {x : Uh} {o bs : List UInt8} {a b : Ad} (h : (pairA a b && x.ok a.k o.length bs.length) = true) : 0 ≤ x.sum o bs a b ∧ x.sum o bs a b ≤ 65535 := by
  by_cases k : x.kind = 0 ∨ x.nosum = true
  · rw [Uh.sum_zero h k]; omega
  · rw [Uh.sum_yes h k]
    have h2 : pairA a b = true ∧ x.ok a.k o.length bs.length = true := by simpa using h
    have hw := isWord_iff.1 (sadd_word (Uh.top_word h2.1 h2.2) (Uh.enc_word h2.2 0))
    unfold udp0
    split <;> omega
theorem Uh.out_len {x : Uh} {o bs : List UInt8} {a b : Ad} : (x.out o bs a b).length ≤ 1500 := by
  unfold Uh.out
  split
  · rename_i h
    have h2 : pairA a b = true ∧ x.ok a.k o.length bs.length = true := by simpa using h
    have h3 := Uh.enc_len x o bs (x.sum o bs a b) (Uh.ok_kind h2.2)
    have h4 := Uh.ok_room h2.2
    omega
  · simp
set_option maxHeartbeats 2000000 in
theorem ubI_no (x : Uh) (s t : Ad) (A D : Option Addr) (n c m d : Nat) (os bs : List UInt8) (w : World) (hr : RB w w.heap.size A os) (hl : os.length = n) (hs : RB w w.heap.size D bs) (hm : bs.length = m) (hn : n ≤ 1048576) (hm2 : m ≤ 1048576) (hk : (pairA s t && x.ok s.k n m) = false) : Calls Try.prog 29 #[.agg #[.int .i64 x.kind, .int .i64 x.sport, .int .i64 x.dport, .int .i64 x.seq, .int .i64 x.ack, .int .i64 x.bits, .int .i64 x.window, .int .i64 x.urgent, .int .i64 x.ty, .int .i64 x.code, .int .i64 x.rest, .bool x.nosum, .slice A n c, .slice D m d], .agg #[.int .i64 s.k, .int .i64 s.a, .int .i64 s.b, .int .i64 s.c, .int .i64 s.d], .agg #[.int .i64 t.k, .int .i64 t.a, .int .i64 t.b, .int .i64 t.c, .int .i64 t.d]] w (EncOut (x.out os bs s t) w) := by
  have HA := Lib.hid hr
  have HD := Lib.hid hs
  have HL := Lib.hid hl
  have HM := Lib.hid hm
  have HO := Lib.hid (show x.out os bs s t = [] by unfold Uh.out; rw [hl, hm, if_neg (by simp [hk])])
  have HS := Lib.hid (Uh.sum_no (x := x) (o := os) (bs := bs) (a := s) (b := t) (by rw [hl, hm]; exact hk))
  clear hr hs hl hm hk
  have q0 : Hid ((((w.alloc (.cells #[.int .i64 x.kind, .int .i64 x.sport, .int .i64 x.dport, .int .i64 x.seq, .int .i64 x.ack, .int .i64 x.bits, .int .i64 x.window, .int .i64 x.urgent, .int .i64 x.ty, .int .i64 x.code, .int .i64 x.rest, .bool x.nosum, .slice A n c, .slice D m d] 36)).alloc (.cells #[.int .i64 s.k, .int .i64 s.a, .int .i64 s.b, .int .i64 s.c, .int .i64 s.d] 27)).alloc (.cells #[.int .i64 t.k, .int .i64 t.a, .int .i64 t.b, .int .i64 t.c, .int .i64 t.d] 27)).heap[w.heap.size]? = some (.cells #[.int .i64 x.kind, .int .i64 x.sport, .int .i64 x.dport, .int .i64 x.seq, .int .i64 x.ack, .int .i64 x.bits, .int .i64 x.window, .int .i64 x.urgent, .int .i64 x.ty, .int .i64 x.code, .int .i64 x.rest, .bool x.nosum, .slice A n c, .slice D m d] 36)) := Lib.hid (by repeat (first | exact K.newAt (by first | rfl | (simp; done)) | refine K.oldAt (by first | (simp; done) | (simp; omega)) ?_))
  have q1 : Hid ((((w.alloc (.cells #[.int .i64 x.kind, .int .i64 x.sport, .int .i64 x.dport, .int .i64 x.seq, .int .i64 x.ack, .int .i64 x.bits, .int .i64 x.window, .int .i64 x.urgent, .int .i64 x.ty, .int .i64 x.code, .int .i64 x.rest, .bool x.nosum, .slice A n c, .slice D m d] 36)).alloc (.cells #[.int .i64 s.k, .int .i64 s.a, .int .i64 s.b, .int .i64 s.c, .int .i64 s.d] 27)).alloc (.cells #[.int .i64 t.k, .int .i64 t.a, .int .i64 t.b, .int .i64 t.c, .int .i64 t.d] 27)).heap[w.heap.size + 1]? = some (.cells #[.int .i64 s.k, .int .i64 s.a, .int .i64 s.b, .int .i64 s.c, .int .i64 s.d] 27)) := Lib.hid (by repeat (first | exact K.newAt (by first | rfl | (simp; done)) | refine K.oldAt (by first | (simp; done) | (simp; omega)) ?_))
  have q2 : Hid ((((w.alloc (.cells #[.int .i64 x.kind, .int .i64 x.sport, .int .i64 x.dport, .int .i64 x.seq, .int .i64 x.ack, .int .i64 x.bits, .int .i64 x.window, .int .i64 x.urgent, .int .i64 x.ty, .int .i64 x.code, .int .i64 x.rest, .bool x.nosum, .slice A n c, .slice D m d] 36)).alloc (.cells #[.int .i64 s.k, .int .i64 s.a, .int .i64 s.b, .int .i64 s.c, .int .i64 s.d] 27)).alloc (.cells #[.int .i64 t.k, .int .i64 t.a, .int .i64 t.b, .int .i64 t.c, .int .i64 t.d] 27)).heap[w.heap.size + 1 + 1]? = some (.cells #[.int .i64 t.k, .int .i64 t.a, .int .i64 t.b, .int .i64 t.c, .int .i64 t.d] 27)) := Lib.hid (by repeat (first | exact K.newAt (by first | rfl | (simp; done)) | refine K.oldAt (by first | (simp; done) | (simp; omega)) ?_))
  have HB : Hid (Below w.heap.size w (((w.alloc (.cells #[.int .i64 x.kind, .int .i64 x.sport, .int .i64 x.dport, .int .i64 x.seq, .int .i64 x.ack, .int .i64 x.bits, .int .i64 x.window, .int .i64 x.urgent, .int .i64 x.ty, .int .i64 x.code, .int .i64 x.rest, .bool x.nosum, .slice A n c, .slice D m d] 36)).alloc (.cells #[.int .i64 s.k, .int .i64 s.a, .int .i64 s.b, .int .i64 s.c, .int .i64 s.d] 27)).alloc (.cells #[.int .i64 t.k, .int .i64 t.a, .int .i64 t.b, .int .i64 t.c, .int .i64 t.d] 27))) := Lib.hid (by go_grown)
  go_enter Try.func29, Try.ntmps29
  go_wp2_with (first | (with_reducible refine loadU rfl _ rfl w.heap.size rfl q0.out ?_) | (with_reducible refine loadA rfl _ rfl (w.heap.size + 1) rfl q1.out ?_) | (with_reducible refine loadA rfl _ rfl (w.heap.size + 2) rfl q2.out ?_))
  refine Calls.mono (usI x s t A D n c m d os bs _ ((HA.out.below HB.out).more HB.out.size) HL.out ((HD.out.below HB.out).more HB.out.size) HM.out hn hm2) ?_
  rintro e w1 ⟨rfl, b1⟩
  have B1 := Lib.hid (bthen HB.out b1)
  clear b1 q0 q1 q2 HB
  rw [HS.out]
  go_wp2
  go_ret
  exact encOut HO.out.symm rfl ⟨⟨rfl, .inl ⟨rfl, rfl⟩⟩, B1.out⟩
set_option maxHeartbeats 2000000 in
theorem ubI_yes (x : Uh) (s t : Ad) (A D : Option Addr) (n c m d : Nat) (os bs : List UInt8) (w : World) (hr : RB w w.heap.size A os) (hl : os.length = n) (hs : RB w w.heap.size D bs) (hm : bs.length = m) (hn : n ≤ 1048576) (hm2 : m ≤ 1048576) (hk : (pairA s t && x.ok s.k n m) = true) : Calls Try.prog 29 #[.agg #[.int .i64 x.kind, .int .i64 x.sport, .int .i64 x.dport, .int .i64 x.seq, .int .i64 x.ack, .int .i64 x.bits, .int .i64 x.window, .int .i64 x.urgent, .int .i64 x.ty, .int .i64 x.code, .int .i64 x.rest, .bool x.nosum, .slice A n c, .slice D m d], .agg #[.int .i64 s.k, .int .i64 s.a, .int .i64 s.b, .int .i64 s.c, .int .i64 s.d], .agg #[.int .i64 t.k, .int .i64 t.a, .int .i64 t.b, .int .i64 t.c, .int .i64 t.d]] w (EncOut (x.out os bs s t) w) := by
  have HA := Lib.hid hr
  have HD := Lib.hid hs
  have HL := Lib.hid hl
  have HM := Lib.hid hm
  have h2 : pairA s t = true ∧ x.ok s.k n m = true := by simpa using hk
  have HK := Lib.hid h2.2
  have HO := Lib.hid (show x.out os bs s t = x.enc os bs (x.sum os bs s t) by unfold Uh.out; rw [hl, hm, if_pos hk])
  have hq := Uh.sum_range (x := x) (o := os) (bs := bs) (a := s) (b := t) (by rw [hl, hm]; exact hk)
  obtain ⟨q, hqq⟩ : ∃ q, x.sum os bs s t = q := ⟨_, rfl⟩
  rw [hqq] at hq HO
  have HQ := Lib.hid hqq
  have hq1 : ¬ q = -1 := by omega
  clear hr hs hl hm hk h2 hqq
  have q0 : Hid ((((w.alloc (.cells #[.int .i64 x.kind, .int .i64 x.sport, .int .i64 x.dport, .int .i64 x.seq, .int .i64 x.ack, .int .i64 x.bits, .int .i64 x.window, .int .i64 x.urgent, .int .i64 x.ty, .int .i64 x.code, .int .i64 x.rest, .bool x.nosum, .slice A n c, .slice D m d] 36)).alloc (.cells #[.int .i64 s.k, .int .i64 s.a, .int .i64 s.b, .int .i64 s.c, .int .i64 s.d] 27)).alloc (.cells #[.int .i64 t.k, .int .i64 t.a, .int .i64 t.b, .int .i64 t.c, .int .i64 t.d] 27)).heap[w.heap.size]? = some (.cells #[.int .i64 x.kind, .int .i64 x.sport, .int .i64 x.dport, .int .i64 x.seq, .int .i64 x.ack, .int .i64 x.bits, .int .i64 x.window, .int .i64 x.urgent, .int .i64 x.ty, .int .i64 x.code, .int .i64 x.rest, .bool x.nosum, .slice A n c, .slice D m d] 36)) := Lib.hid (by repeat (first | exact K.newAt (by first | rfl | (simp; done)) | refine K.oldAt (by first | (simp; done) | (simp; omega)) ?_))
  have q1 : Hid ((((w.alloc (.cells #[.int .i64 x.kind, .int .i64 x.sport, .int .i64 x.dport, .int .i64 x.seq, .int .i64 x.ack, .int .i64 x.bits, .int .i64 x.window, .int .i64 x.urgent, .int .i64 x.ty, .int .i64 x.code, .int .i64 x.rest, .bool x.nosum, .slice A n c, .slice D m d] 36)).alloc (.cells #[.int .i64 s.k, .int .i64 s.a, .int .i64 s.b, .int .i64 s.c, .int .i64 s.d] 27)).alloc (.cells #[.int .i64 t.k, .int .i64 t.a, .int .i64 t.b, .int .i64 t.c, .int .i64 t.d] 27)).heap[w.heap.size + 1]? = some (.cells #[.int .i64 s.k, .int .i64 s.a, .int .i64 s.b, .int .i64 s.c, .int .i64 s.d] 27)) := Lib.hid (by repeat (first | exact K.newAt (by first | rfl | (simp; done)) | refine K.oldAt (by first | (simp; done) | (simp; omega)) ?_))
  have q2 : Hid ((((w.alloc (.cells #[.int .i64 x.kind, .int .i64 x.sport, .int .i64 x.dport, .int .i64 x.seq, .int .i64 x.ack, .int .i64 x.bits, .int .i64 x.window, .int .i64 x.urgent, .int .i64 x.ty, .int .i64 x.code, .int .i64 x.rest, .bool x.nosum, .slice A n c, .slice D m d] 36)).alloc (.cells #[.int .i64 s.k, .int .i64 s.a, .int .i64 s.b, .int .i64 s.c, .int .i64 s.d] 27)).alloc (.cells #[.int .i64 t.k, .int .i64 t.a, .int .i64 t.b, .int .i64 t.c, .int .i64 t.d] 27)).heap[w.heap.size + 1 + 1]? = some (.cells #[.int .i64 t.k, .int .i64 t.a, .int .i64 t.b, .int .i64 t.c, .int .i64 t.d] 27)) := Lib.hid (by repeat (first | exact K.newAt (by first | rfl | (simp; done)) | refine K.oldAt (by first | (simp; done) | (simp; omega)) ?_))
  have HB : Hid (Below w.heap.size w (((w.alloc (.cells #[.int .i64 x.kind, .int .i64 x.sport, .int .i64 x.dport, .int .i64 x.seq, .int .i64 x.ack, .int .i64 x.bits, .int .i64 x.window, .int .i64 x.urgent, .int .i64 x.ty, .int .i64 x.code, .int .i64 x.rest, .bool x.nosum, .slice A n c, .slice D m d] 36)).alloc (.cells #[.int .i64 s.k, .int .i64 s.a, .int .i64 s.b, .int .i64 s.c, .int .i64 s.d] 27)).alloc (.cells #[.int .i64 t.k, .int .i64 t.a, .int .i64 t.b, .int .i64 t.c, .int .i64 t.d] 27))) := Lib.hid (by go_grown)
  go_enter Try.func29, Try.ntmps29
  go_wp2_with (first | (with_reducible refine loadU rfl _ rfl w.heap.size rfl q0.out ?_) | (with_reducible refine loadA rfl _ rfl (w.heap.size + 1) rfl q1.out ?_) | (with_reducible refine loadA rfl _ rfl (w.heap.size + 2) rfl q2.out ?_))
  refine Calls.mono (usI x s t A D n c m d os bs _ ((HA.out.below HB.out).more HB.out.size) HL.out ((HD.out.below HB.out).more HB.out.size) HM.out hn hm2) ?_
  rintro e w1 ⟨rfl, b1⟩
  have B1 := Lib.hid (bthen HB.out b1)
  have r0 := Lib.hid (K.below b1 q0.out)
  clear b1 q0 q1 q2 HB
  rw [HQ.out]
  go_wp2_with (with_reducible refine loadU rfl _ rfl w.heap.size rfl r0.out ?_)
  refine Calls.mono (encI x s.k q A D n c m d os bs _ ((HA.out.below B1.out).more B1.out.size) HL.out ((HD.out.below B1.out).more B1.out.size) HM.out HK.out) ?_
  rintro e w2 ⟨A2, c2, rfl, o2, b2⟩
  have O2 := Lib.hid o2
  have B2 := Lib.hid (bthen B1.out b2)
  have L1 := Lib.hid B1.out.size
  clear o2 b2
  go_wp2
  go_ret
  exact encOut HO.out.symm rfl ⟨own_base O2.out L1.out, B2.out⟩
theorem ubI (x : Uh) (s t : Ad) (A D : Option Addr) (n c m d : Nat) (os bs : List UInt8) (w : World) (hr : RB w w.heap.size A os) (hl : os.length = n) (hs : RB w w.heap.size D bs) (hm : bs.length = m) (hn : n ≤ 1048576) (hm2 : m ≤ 1048576) : Calls Try.prog 29 #[.agg #[.int .i64 x.kind, .int .i64 x.sport, .int .i64 x.dport, .int .i64 x.seq, .int .i64 x.ack, .int .i64 x.bits, .int .i64 x.window, .int .i64 x.urgent, .int .i64 x.ty, .int .i64 x.code, .int .i64 x.rest, .bool x.nosum, .slice A n c, .slice D m d], .agg #[.int .i64 s.k, .int .i64 s.a, .int .i64 s.b, .int .i64 s.c, .int .i64 s.d], .agg #[.int .i64 t.k, .int .i64 t.a, .int .i64 t.b, .int .i64 t.c, .int .i64 t.d]] w (EncOut (x.out os bs s t) w) := by
  cases hk : (pairA s t && x.ok s.k n m) with
  | false => exact ubI_no x s t A D n c m d os bs w hr hl hs hm hn hm2 hk
  | true => exact ubI_yes x s t A D n c m d os bs w hr hl hs hm hn hm2 hk
structure Eh where
  d : Int
  s : Int
  t : Int
  k : Int
deriving DecidableEq
def Eh.zero : Eh := ⟨0, 0, 0, 0⟩
def Eh.head (x : Eh) : Int := if x.t = -1 then 14 else 18
def macOk (n : Int) : Bool := decide (0 ≤ n ∧ n ≤ 281474976710655)
def kindOk (n : Int) : Bool := decide (1536 ≤ n ∧ n ≤ 65535 ∧ n ≠ 33024)
def tagOk (n : Int) : Bool := decide (-1 ≤ n ∧ n ≤ 65535)
def Eh.ok (x : Eh) (n : Nat) : Bool := macOk x.d && macOk x.s && tagOk x.t && kindOk x.k && decide ((n : Int) ≤ 1600 - x.head)
theorem Eh.ok_iff (x : Eh) (n : Nat) : x.ok n = true ↔ (0 ≤ x.d ∧ x.d ≤ 281474976710655) ∧ (0 ≤ x.s ∧ x.s ≤ 281474976710655) ∧ (-1 ≤ x.t ∧ x.t ≤ 65535) ∧ (1536 ≤ x.k ∧ x.k ≤ 65535 ∧ x.k ≠ 33024) ∧ (n : Int) ≤ 1600 - x.head := by
  simp only [Eh.ok, macOk, tagOk, kindOk, Bool.and_eq_true, decide_eq_true_eq, and_assoc]
def mac (n : Int) : List UInt8 := put16 (n / 4294967296) ++ put32 n
def Eh.top (x : Eh) : List UInt8 := mac x.d ++ mac x.s ++ (if x.t = -1 then [] else put16 33024 ++ put16 x.t) ++ put16 x.k
def Eh.bytes (x : Eh) (bs : List UInt8) : List UInt8 := if x.ok bs.length then x.top ++ bs else []
end Go.Proofs.Ythogonpjkngpjaa

namespace Go.Proofs.Ythogonpjkngpjaa
set_option maxRecDepth 100000
open Go.RowKit
theorem be_lt5 (l : List UInt8) (j : Nat) (h : j ≤ 5) : be (l.take j) < 1099511627776 := by
  have h1 := be_lt (l.take j)
  have h2 : 256 ^ (l.take j).length ≤ 256 ^ 5 := Nat.pow_le_pow_right (by omega) (Nat.le_trans (List.length_take_le _ _) h)
  omega
theorem or_byteW (m b : Nat) (hm : m < 1099511627776) (hb : b < 256) : bits .or .i64 ((m : Int) * 256) (b : Int) = (m : Int) * 256 + b := by
  have e : ((m : Int) * 256) = ((256 * m : Nat) : Int) := by omega
  have ho : 256 * m ||| b = 256 * m + b := (Nat.two_pow_add_eq_or_of_lt (i := 8) (by simpa using hb) m).symm
  rw [e]
  show IntKind.i64.wrap ((BitVec.ofInt 64 ((256 * m : Nat) : Int) ||| BitVec.ofInt 64 (b : Int)).toNat : Int) = _
  rw [BitVec.toNat_or, ofInt_i64 _ (by omega), ofInt_i64 b (by omega), ho, IntKind.wrap_i64]
  omega
set_option maxHeartbeats 400000 in
theorem implBigW (A : Option Addr) (n c : Nat) (bs : List UInt8) (k : Nat) (s : Nat) (w : World) (hr : RB w w.heap.size A bs) (hl : bs.length = n) (hn : n ≤ 1048576) (hc : n ≤ c) (hs0 : 0 < s) (hs : s ≤ 6) (h : k + s ≤ n) :
    Calls Try.prog 123 #[.slice A n c, .int .i64 (k : Int), .int .i64 s] w fun e w' => e = .returned (.tuple #[.int .i64 (be ((bs.drop k).take s)), .bool true]) ∧ w = w' := by
  subst hl
  obtain ⟨g, o, rfl, hg, hcell⟩ := hr (by omega)
  have hne : ¬ c = k := by omega
  go_enter Try.func123, Try.ntmps123
  go_wp2_with (go_at_call 42; refine (within_yes _ _ _ _ (by omega) (by omega)).mono ?_; rintro e w' ⟨rfl, rfl⟩)
  go_loop [8, 25] (fun n i => ∃ j : Nat, j ≤ s ∧ i = .int .i64 j ∧ n = .int .i64 (be ((bs.drop k).take j))) (fun _ i => s - (intOf i).toNat)
  case atStart => exact ⟨0, Nat.zero_le _, rfl, rfl⟩
  case round =>
    obtain ⟨j, hj, rfl, rfl⟩ := hrel
    by_cases hlt : j < s
    · have hc0 : w.cell? ⟨g, o + k + j, none⟩ = some (.int .u8 (bs[k + j].toNat : Int)) := by
        rw [Nat.add_assoc]
        exact hcell (k + j) _ (List.getElem?_eq_getElem (by omega))
      have hb : (bs[k + j].toNat) < 256 := UInt8.toNat_lt _
      have hm := be_lt5 (bs.drop k) j (by omega)
      have hor := or_byteW (be ((bs.drop k).take j)) bs[k + j].toNat (by omega) hb
      have hst := Lib.hid (show be ((bs.drop k).take (j + 1)) = 256 * be ((bs.drop k).take j) + bs[k + j].toNat by
        rw [take_snoc _ j (by simp; omega), be_snoc]
        simp)
      clear hcell
      go_wp2
      go_round
      case rel => exact ⟨j + 1, by omega, by go_num, by rw [hst.out]; go_num⟩
      case measure => simp [intOf]; omega
    · obtain rfl : j = s := by omega
      go_wp2
      go_ret2
      exact ⟨rfl, rfl⟩
structure Rd (w : World) (g : Nat) (A : Option Addr) (n c : Nat) (bs : List UInt8) (k : Nat) : Prop where
  blk : w.heap[g]? = some (.cells #[.slice A n c, .int .i64 (k : Int)] 77 (0, 0))
  rb : RB w g A bs
  len : bs.length = n
  small : n ≤ 1048576
  cap : n ≤ c
section
variable {w w' : World} {g : Nat} {A : Option Addr} {n c : Nat} {bs : List UInt8} {k : Nat}
theorem Rd.lt (h : Rd w g A n c bs k) : g < w.heap.size := K.lt h.blk
theorem Rd.setAt (h : Rd w g A n c bs k) (m j : Nat) : Rd ((w.drewN m).setCell ⟨g, 1, none⟩ (.int .i64 (j : Int))) g A n c bs j ∧ w.grownBy ((w.drewN m).setCell ⟨g, 1, none⟩ (.int .i64 (j : Int))) (some g) := by
  have hg := step_grown w g 1 m (.int .i64 (j : Int))
  exact ⟨⟨K.set (w := w.drewN m) h.blk 1 _, h.rb.grownBy hg (Nat.le_refl _), h.len, h.small, h.cap⟩, hg⟩
theorem Rd.setAt0 (h : Rd w g A n c bs k) (j : Nat) : Rd (w.setCell ⟨g, 1, none⟩ (.int .i64 (j : Int))) g A n c bs j ∧ w.grownBy (w.setCell ⟨g, 1, none⟩ (.int .i64 (j : Int))) (some g) := h.setAt 0 j
theorem Rd.below (h : Rd w g A n c bs k) (hb : Below w.heap.size w w') : Rd w' g A n c bs k := ⟨K.below hb h.blk, h.rb.below (hb.mono (Nat.le_of_lt h.lt)), h.len, h.small, h.cap⟩
theorem Rd.drewN (h : Rd w g A n c bs k) (m : Nat) : Rd (w.drewN m) g A n c bs k := ⟨h.blk, h.rb, h.len, h.small, h.cap⟩
end
set_option maxHeartbeats 400000 in
theorem cloneC (a : Addr) (n c : Nat) (bs : List UInt8) (B : Nat) (w : World) (hr : RB w B (some a) bs) (hB : B ≤ w.heap.size) (hl : bs.length = n) (hn : n ≤ 1048576) :
    Calls Try.prog 83 #[.slice (some a) n c] w fun e w' => ∃ D d, e = .returned (.slice D n d) ∧ w'.ownsRow w.heap.size 5 1 (.slice D n d) n (cellsOf bs) ∧ Below w.heap.size w w' := by
  subst hl
  have o0 : (w.alloc (.cells #[] 5)).ownsRow w.heap.size 5 1 (.slice (some ⟨w.heap.size, 0, none⟩) 0 0) ([] : List UInt8).length (cellsOf []) := World.ownsRow_lit w #[] 0 (Nat.le_refl _) (Nat.zero_le _) rfl
  have hb0 : Below w.heap.size w (w.alloc (.cells #[] 5)) := (Below.refl _ _).alloc (Nat.le_refl _) _
  have r0 := (hr.more hB).below hb0
  have hnil : ∀ v : World, (binOp .eql 34 (.slice (some a) bs.length c) (.slice none 0 0)).run Try.prog v = .ok (.bool false) v := fun v => Lib.run_eql_slice_nil v _ _ _ _ _ _ _ Try.underlying34
  clear hr
  go_enter Try.func83, Try.ntmps83
  go_wp2_with (at_builtin; refine wpList_append_b rfl (.tmp 5) (.tmp 6) rfl w.heap.size (.slice (some ⟨w.heap.size, 0, none⟩) 0 0) [] rfl o0 _ (some a) bs.length c bs rfl rfl r0 (by simp; omega) (by simp) ?_; intro v3 w3 o3 g3 _)
  go_ret
  obtain ⟨A, c, rfl⟩ := own_form o3
  exact ⟨A, c, rfl, o3, hb0.grown g3 (by simp) (by simp [Value.ownBlock])⟩
theorem cut_mid (A : Option Addr) (n c k s j : Nat) (hj : k + s = j) (h : j ≤ c) (w : World) : (Instr.sliceAt 34 (.slice A n c) (some (.int .i64 (k : Int))) (some (.int .i64 (j : Int))) none).run Try.prog w = .ok (.slice (if c = k then A else A.map (·.add (k * 1))) s (c - k)) w := by
  obtain ⟨i0, hi0, hz0, hz1, hz2⟩ := info_parts info_u8
  rw [run_sliceAt_slice w _ _ _ _ _ (by kernel_rfl), run_slice_lh w _ _ _ _ (by kernel_rfl) .i64 .i64 (k : Int) (j : Int) (by omega) (by omega) (by omega)]
  have e : Try.prog.elem 34 = 5 := by kernel_rfl
  simp [e, sizeOf, typeInfo, hi0, sliced, hz1]
  omega
theorem below_grown {w w' : World} (h : Below w.heap.size w w') (row : Option Nat) : w.grownBy w' row := ⟨h.os, h.tape, h.output, h.size, fun k hk _ => h.block k hk⟩
end Go.Proofs.Ythogonpjkngpjaa

namespace Go.Proofs.Ythogonpjkngpjaa
set_option maxRecDepth 100000
open Go.RowKit
def num (bs : List UInt8) (k s : Nat) : Nat := be ((bs.drop k).take s)
theorem num_lt2 (bs : List UInt8) (k : Nat) : num bs k 2 < 65536 := by
  have h1 := be_lt ((bs.drop k).take 2)
  have h2 : 256 ^ ((bs.drop k).take 2).length ≤ 256 ^ 2 := Nat.pow_le_pow_right (by omega) (List.length_take_le _ _)
  unfold num
  omega
end Go.Proofs.Ythogonpjkngpjaa

namespace Go.Proofs.Ythogonpjkngpjaa
set_option maxRecDepth 100000
open Go.RowKit
structure Rp (w : World) (g : Nat) (A : Option Addr) (n c : Nat) (bs : List UInt8) (k : Nat) : Prop where
  blk : w.heap[g]? = some (.cells #[.slice A n c, .int .i64 (k : Int)] 79 (0, 0))
  rb : RB w g A bs
  len : bs.length = n
  small : n ≤ 1048576
  cap : n ≤ c
section
variable {w w' : World} {g : Nat} {A : Option Addr} {n c : Nat} {bs : List UInt8} {k : Nat}
theorem Rp.lt (h : Rp w g A n c bs k) : g < w.heap.size := K.lt h.blk
theorem Rp.setAt (h : Rp w g A n c bs k) (m j : Nat) : Rp ((w.drewN m).setCell ⟨g, 1, none⟩ (.int .i64 (j : Int))) g A n c bs j ∧ w.grownBy ((w.drewN m).setCell ⟨g, 1, none⟩ (.int .i64 (j : Int))) (some g) := by
  have hg := step_grown w g 1 m (.int .i64 (j : Int))
  exact ⟨⟨K.set (w := w.drewN m) h.blk 1 _, h.rb.grownBy hg (Nat.le_refl _), h.len, h.small, h.cap⟩, hg⟩
theorem Rp.setAt0 (h : Rp w g A n c bs k) (j : Nat) : Rp (w.setCell ⟨g, 1, none⟩ (.int .i64 (j : Int))) g A n c bs j ∧ w.grownBy (w.setCell ⟨g, 1, none⟩ (.int .i64 (j : Int))) (some g) := h.setAt 0 j
theorem Rp.below (h : Rp w g A n c bs k) (hb : Below w.heap.size w w') : Rp w' g A n c bs k := ⟨K.below hb h.blk, h.rb.below (hb.mono (Nat.le_of_lt h.lt)), h.len, h.small, h.cap⟩
theorem Rp.away {row : Option Nat} (h : Rp w g A n c bs k) (hg : w.grownBy w' row) (hne : ∀ q, row = some q → g < q) : Rp w' g A n c bs k := by
  refine ⟨K.kept hg h.blk (fun q hq => by have := hne q hq; omega), ?_, h.len, h.small, h.cap⟩
  rcases row with _ | q
  · exact h.rb.below ⟨hg.os, hg.tape, hg.output, hg.size, fun b hb => hg.block b (by have := h.lt; omega) (by simp)⟩
  · exact h.rb.grownBy hg (Nat.le_of_lt (hne q rfl))
theorem Rp.drewN (h : Rp w g A n c bs k) (m : Nat) : Rp (w.drewN m) g A n c bs k := ⟨h.blk, h.rb, h.len, h.small, h.cap⟩
end
set_option maxHeartbeats 400000 in
theorem leftP (w : World) (g : Nat) (A : Option Addr) (n c : Nat) (bs : List UInt8) (k l : Nat) (h : Rp w g A n c bs k) (hk : k + l = n) :
    Calls Try.prog 92 #[.pointer (some ⟨g, 0, none⟩)] w fun e w' => e = .returned (.int .i64 (l : Int)) ∧ Below w.heap.size w w' := by
  obtain ⟨⟨c0, c1⟩, f0, f1⟩ := K.row2 h.blk
  have hn := h.small
  have e : IntKind.i64.wrap ((n : Int) - (k : Int)) = (l : Int) := by rw [IntKind.wrap_i64]; omega
  clear h hk
  go_enter Try.func92, Try.ntmps92
  go_wp2
  go_quiet (fail)
  go_wp2
  go_ret
  exact ⟨rfl, below_drewN (Below.refl _ _) _⟩
set_option maxHeartbeats 1000000 in
theorem numberP (w : World) (g : Nat) (A : Option Addr) (n c : Nat) (bs : List UInt8) (k s v : Nat) (hv : num bs k s = v) (h : Rp w g A n c bs k) (hs0 : 0 < s) (hs : s ≤ 6) (hk : k + s ≤ n) :
    Calls Try.prog 117 #[.pointer (some ⟨g, 0, none⟩), .int .i64 (s : Int)] w fun e w' => e = .returned (.int .i64 (v : Int)) ∧ Rp w' g A n c bs (k + s) ∧ w.grownBy w' (some g) := by
  obtain ⟨⟨c0, c1⟩, f0, f1⟩ := K.row2 h.blk
  have hn := h.small
  have H := Lib.hid h
  have HB := Lib.hid (fun m => implBigW A n c bs k s (w.drewN m) ((h.drewN m).rb.more (Nat.le_of_lt h.lt)) h.len h.small h.cap hs0 hs hk)
  obtain ⟨j, hj⟩ : ∃ j : Nat, k + s = j := ⟨_, rfl⟩
  have e : (k : Int) + (s : Int) = (j : Int) := by omega
  have hjn : j ≤ n := by omega
  have HJ := Lib.hid hj
  have HV := Lib.hid (show be ((bs.drop k).take s) = v from hv)
  clear h hj hv
  go_enter Try.func117, Try.ntmps117
  go_wp2
  go_quiet ((go_at_call 123; exact (HB.out _).mono fun _ _ ⟨he, hw⟩ => ⟨he, _, hw.symm⟩))
  go_wp2
  go_ret
  rw [HJ.out]
  exact ⟨by rw [HV.out]; rfl, (H.out.setAt _ j).1, (H.out.setAt _ j).2⟩
set_option maxHeartbeats 1000000 in
theorem takeP (w : World) (g : Nat) (a : Addr) (n c : Nat) (bs : List UInt8) (k s : Nat) (h : Rp w g (some a) n c bs k) (hk : k + s ≤ n) :
    Calls Try.prog 91 #[.pointer (some ⟨g, 0, none⟩), .int .i64 (s : Int)] w fun e w' => ∃ D d, e = .returned (.slice D s d) ∧ w'.ownsRow w.heap.size 5 1 (.slice D s d) s (cellsOf ((bs.drop k).take s)) ∧ Rp w' g (some a) n c bs (k + s) ∧ w.grownBy w' (some g) := by
  obtain ⟨⟨c0, c1⟩, f0, f1⟩ := K.row2 h.blk
  have hn := h.small
  have hl := h.len
  have hcap := h.cap
  have H := Lib.hid h
  obtain ⟨j, hj⟩ : ∃ j : Nat, k + s = j := ⟨_, rfl⟩
  have e : (k : Int) + (s : Int) = (j : Int) := by omega
  have e2 : IntKind.i64.wrap (j : Int) = (j : Int) := by rw [IntKind.wrap_i64]; omega
  have hsl := cut_mid (some a) n c k s j hj (by omega)
  obtain ⟨b, hb⟩ : ∃ b : Addr, (if c = k then (some a : Option Addr) else (some a).map (·.add (k * 1))) = some b := by
    split
    · exact ⟨a, rfl⟩
    · exact ⟨_, rfl⟩
  have r0 : RB w g (some b) ((bs.drop k).take s) := by
    rw [← hb]
    exact (h.rb.back k c (by omega)).front s
  rw [hb] at hsl
  have R0 := Lib.hid r0
  have HL := Lib.hid (show ((bs.drop k).take s).length = s by simp; omega)
  have hgw := h.lt
  have HJ := Lib.hid hj
  clear h hb r0 hl hj
  go_enter Try.func91, Try.ntmps91
  go_wp2
  go_still_tail 15, (by kernel_rfl)
  change wpList _ _ _ _ _ w.drew
  have HW : Hid (Rp w.drew g (some a) n c bs k) := Lib.hid (H.out.drewN 1)
  have RW : Hid (RB w.drew g (some b) ((bs.drop k).take s)) := Lib.hid R0.out
  have hgw2 : g < w.drew.heap.size := hgw
  have G0 : Hid (w.grownBy w.drew (some g)) := Lib.hid ⟨rfl, rfl, rfl, Nat.le_refl _, fun _ _ _ => rfl⟩
  have hsz : w.drew.heap.size = w.heap.size := rfl
  clear c0 c1 f0 f1 hsl
  generalize w.drew = w2 at *
  go_wp2_with fail
  refine (cloneC b s _ _ g w2 RW.out (Nat.le_of_lt hgw2) HL.out (by omega)).mono ?_
  rintro e w3 ⟨D, d, rfl, o3, b3⟩
  have H3 := Lib.hid (HW.out.below b3)
  have G3 := Lib.hid (grownBy_trans G0.out (below_grown b3 (some g)))
  have O3 := Lib.hid (own_base o3 (Nat.le_of_eq hsz.symm))
  clear o3 b3
  obtain ⟨⟨c0, c1⟩, f0, f1⟩ := K.row2 H3.out.blk
  go_wp2
  go_ret
  exact ⟨D, d, rfl, own_grown O3.out (grownBy_set w3 g 1 _) (fun q hq => by have := (O3.out.lt q hq).1; simp; omega), by rw [HJ.out]; exact (H3.out.setAt0 j).1, grownBy_trans G3.out (grownBy_set w3 g 1 _)⟩
theorem and_low (v m i : Nat) (hm : 2 ^ i = m) (hi : i ≤ 16) (hv : v < 4611686018427387904) : bits .and .i64 (v : Int) ((m : Int) - 1) = ((v % m : Nat) : Int) := by
  have h1 : 2 ^ i ≤ 2 ^ 16 := Nat.pow_le_pow_right (by omega) hi
  have h0 : 0 < m := by rw [← hm]; exact Nat.two_pow_pos i
  have e : (m : Int) - 1 = ((m - 1 : Nat) : Int) := by omega
  have ha : v &&& (m - 1) = v % m := by rw [← hm]; exact Nat.and_two_pow_sub_one_eq_mod v i
  have hl : v % m ≤ v := Nat.mod_le v m
  rw [e]
  show IntKind.i64.wrap ((BitVec.ofInt 64 (v : Int) &&& BitVec.ofInt 64 ((m - 1 : Nat) : Int)).toNat : Int) = _
  rw [BitVec.toNat_and, ofInt_i64 _ (by omega), ofInt_i64 _ (by omega), ha, IntKind.wrap_i64]
  omega
end Go.Proofs.Ythogonpjkngpjaa

namespace Go.Proofs.Ythogonpjkngpjaa
set_option maxRecDepth 100000
open Go.RowKit
set_option maxHeartbeats 1000000 in
theorem splitP_12 (w : World) (g : Nat) (A : Option Addr) (n c : Nat) (bs : List UInt8) (k s v : Nat) (hv : num bs k s = v) (hv2 : v < 65536) (h : Rp w g A n c bs k) (hs0 : 0 < s) (hs : s ≤ 6) (hk : k + s ≤ n) :
    Calls Try.prog 116 #[.pointer (some ⟨g, 0, none⟩), .int .i64 (s : Int), .int .i64 12] w fun e w' => e = .returned (.tuple #[.int .i64 ((v : Int) / 4096), .int .i64 ((v : Int) % 4096)]) ∧ Rp w' g A n c bs (k + s) ∧ w.grownBy w' (some g) := by
  have HC := Lib.hid (numberP w g A n c bs k s v hv h hs0 hs hk)
  have ea : bits .and .i64 (v : Int) 4095 = (v : Int) % 4096 := by
    have := and_low v 4096 12 rfl (by omega) (by omega)
    rw [show (4095 : Int) = ((4096 : Nat) : Int) - 1 by omega, this]
    omega
  clear h hv
  go_enter Try.func116, Try.ntmps116
  go_wp2_with fail
  refine HC.out.mono ?_
  rintro e w1 ⟨rfl, r1, g1⟩
  have R1 := Lib.hid r1
  have G1 := Lib.hid g1
  clear r1 g1
  go_wp2
  go_quiet (fail)
  go_wp2
  go_ret2
  exact ⟨rfl, R1.out.drewN _, G1.out.os, G1.out.tape, G1.out.output, G1.out.size, G1.out.block⟩
end Go.Proofs.Ythogonpjkngpjaa
