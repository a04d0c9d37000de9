/-
  The checksum of an upper layer in the model.
-/
import Derived.Test.YthogonpjkngpjaaRc28
namespace Go.Proofs.Ythogonpjkngpjaa
set_option maxRecDepth 100000
open Go.RowKit
set_option maxHeartbeats 4000000 in
theorem usS_no1 (x : Uh) (s t : Ad) (A D : Option Addr) (n c m d : Nat) (os bs : List UInt8) (w : World) (hp : pairA s t = false) : Calls Try.prog 26 #[.agg #[.int .i64 x.kind, .int .i64 x.sport, .int .i64 x.dport, .int .i64 x.seq, .int .i64 x.ack, .int .i64 x.bits, .int .i64 x.window, .int .i64 x.urgent, .int .i64 x.ty, .int .i64 x.code, .int .i64 x.rest, .bool x.nosum, .slice A n c, .slice D m d], .agg #[.int .i64 s.k, .int .i64 s.a, .int .i64 s.b, .int .i64 s.c, .int .i64 s.d], .agg #[.int .i64 t.k, .int .i64 t.a, .int .i64 t.b, .int .i64 t.c, .int .i64 t.d]] w fun e w' => e = .returned (.int .i64 (Uh.sum x os bs s t)) ∧ Below w.heap.size w w' := by
  have HP := Lib.hid hp
  have HR := Lib.hid (Uh.sum_no (x := x) (o := os) (bs := bs) (a := s) (b := t) (by simp [hp]))
  clear hp
  have q0 : Hid ((((w.alloc (.cells #[.int .i64 x.kind, .int .i64 x.sport, .int .i64 x.dport, .int .i64 x.seq, .int .i64 x.ack, .int .i64 x.bits, .int .i64 x.window, .int .i64 x.urgent, .int .i64 x.ty, .int .i64 x.code, .int .i64 x.rest, .bool x.nosum, .slice A n c, .slice D m d] 36)).alloc (.cells #[.int .i64 s.k, .int .i64 s.a, .int .i64 s.b, .int .i64 s.c, .int .i64 s.d] 27)).alloc (.cells #[.int .i64 t.k, .int .i64 t.a, .int .i64 t.b, .int .i64 t.c, .int .i64 t.d] 27)).heap[w.heap.size]? = some (.cells #[.int .i64 x.kind, .int .i64 x.sport, .int .i64 x.dport, .int .i64 x.seq, .int .i64 x.ack, .int .i64 x.bits, .int .i64 x.window, .int .i64 x.urgent, .int .i64 x.ty, .int .i64 x.code, .int .i64 x.rest, .bool x.nosum, .slice A n c, .slice D m d] 36)) := Lib.hid (by repeat (first | exact K.newAt (by first | rfl | (simp; done)) | refine K.oldAt (by first | (simp; done) | (simp; omega)) ?_))
  have q1 : Hid ((((w.alloc (.cells #[.int .i64 x.kind, .int .i64 x.sport, .int .i64 x.dport, .int .i64 x.seq, .int .i64 x.ack, .int .i64 x.bits, .int .i64 x.window, .int .i64 x.urgent, .int .i64 x.ty, .int .i64 x.code, .int .i64 x.rest, .bool x.nosum, .slice A n c, .slice D m d] 36)).alloc (.cells #[.int .i64 s.k, .int .i64 s.a, .int .i64 s.b, .int .i64 s.c, .int .i64 s.d] 27)).alloc (.cells #[.int .i64 t.k, .int .i64 t.a, .int .i64 t.b, .int .i64 t.c, .int .i64 t.d] 27)).heap[w.heap.size + 1]? = some (.cells #[.int .i64 s.k, .int .i64 s.a, .int .i64 s.b, .int .i64 s.c, .int .i64 s.d] 27)) := Lib.hid (by repeat (first | exact K.newAt (by first | rfl | (simp; done)) | refine K.oldAt (by first | (simp; done) | (simp; omega)) ?_))
  have q2 : Hid ((((w.alloc (.cells #[.int .i64 x.kind, .int .i64 x.sport, .int .i64 x.dport, .int .i64 x.seq, .int .i64 x.ack, .int .i64 x.bits, .int .i64 x.window, .int .i64 x.urgent, .int .i64 x.ty, .int .i64 x.code, .int .i64 x.rest, .bool x.nosum, .slice A n c, .slice D m d] 36)).alloc (.cells #[.int .i64 s.k, .int .i64 s.a, .int .i64 s.b, .int .i64 s.c, .int .i64 s.d] 27)).alloc (.cells #[.int .i64 t.k, .int .i64 t.a, .int .i64 t.b, .int .i64 t.c, .int .i64 t.d] 27)).heap[w.heap.size + 1 + 1]? = some (.cells #[.int .i64 t.k, .int .i64 t.a, .int .i64 t.b, .int .i64 t.c, .int .i64 t.d] 27)) := Lib.hid (by repeat (first | exact K.newAt (by first | rfl | (simp; done)) | refine K.oldAt (by first | (simp; done) | (simp; omega)) ?_))
  (try simp only at q0 q1 q2)
  have HB : Hid (Below w.heap.size w (((w.alloc (.cells #[.int .i64 x.kind, .int .i64 x.sport, .int .i64 x.dport, .int .i64 x.seq, .int .i64 x.ack, .int .i64 x.bits, .int .i64 x.window, .int .i64 x.urgent, .int .i64 x.ty, .int .i64 x.code, .int .i64 x.rest, .bool x.nosum, .slice A n c, .slice D m d] 36)).alloc (.cells #[.int .i64 s.k, .int .i64 s.a, .int .i64 s.b, .int .i64 s.c, .int .i64 s.d] 27)).alloc (.cells #[.int .i64 t.k, .int .i64 t.a, .int .i64 t.b, .int .i64 t.c, .int .i64 t.d] 27))) := Lib.hid (by go_grown)
  (try simp only at HB)
  go_enter Try.func26, Try.ntmps26
  go_wp2_with (first | (with_reducible refine loadA rfl _ rfl (w.heap.size + 1) rfl q1.out ?_) | (with_reducible refine loadA rfl _ rfl (w.heap.size + 2) rfl q2.out ?_))
  refine Calls.mono (pairSB s t false HP.out _) ?_
  rintro e w1 ⟨rfl, b1⟩
  have B1 := Lib.hid (bthen HB.out b1)
  have p0 := Lib.hid (K.below b1 q0.out)
  have p1 := Lib.hid (K.below b1 q1.out)
  have p2 := Lib.hid (K.below b1 q2.out)
  clear b1 q0 q1 q2 HB
  go_wp2
  go_ret
  exact ⟨ret_int HR.out.symm, B1.out⟩
set_option maxHeartbeats 4000000 in
theorem usS_no2 (x : Uh) (s t : Ad) (A D : Option Addr) (n c m d : Nat) (os bs : List UInt8) (w : World) (hl : os.length = n) (hm : bs.length = m) (hp : pairA s t = true) (hk : x.ok s.k n m = false) (hn : n ≤ 1048576) (hm2 : m ≤ 1048576) : Calls Try.prog 26 #[.agg #[.int .i64 x.kind, .int .i64 x.sport, .int .i64 x.dport, .int .i64 x.seq, .int .i64 x.ack, .int .i64 x.bits, .int .i64 x.window, .int .i64 x.urgent, .int .i64 x.ty, .int .i64 x.code, .int .i64 x.rest, .bool x.nosum, .slice A n c, .slice D m d], .agg #[.int .i64 s.k, .int .i64 s.a, .int .i64 s.b, .int .i64 s.c, .int .i64 s.d], .agg #[.int .i64 t.k, .int .i64 t.a, .int .i64 t.b, .int .i64 t.c, .int .i64 t.d]] w fun e w' => e = .returned (.int .i64 (Uh.sum x os bs s t)) ∧ Below w.heap.size w w' := by
  have HP := Lib.hid hp
  have HK := Lib.hid hk
  have HR := Lib.hid (Uh.sum_no (x := x) (o := os) (bs := bs) (a := s) (b := t) (by rw [hl, hm, hk]; simp))
  clear hp hk hl hm
  have q0 : Hid ((((w.alloc (.cells #[.int .i64 x.kind, .int .i64 x.sport, .int .i64 x.dport, .int .i64 x.seq, .int .i64 x.ack, .int .i64 x.bits, .int .i64 x.window, .int .i64 x.urgent, .int .i64 x.ty, .int .i64 x.code, .int .i64 x.rest, .bool x.nosum, .slice A n c, .slice D m d] 36)).alloc (.cells #[.int .i64 s.k, .int .i64 s.a, .int .i64 s.b, .int .i64 s.c, .int .i64 s.d] 27)).alloc (.cells #[.int .i64 t.k, .int .i64 t.a, .int .i64 t.b, .int .i64 t.c, .int .i64 t.d] 27)).heap[w.heap.size]? = some (.cells #[.int .i64 x.kind, .int .i64 x.sport, .int .i64 x.dport, .int .i64 x.seq, .int .i64 x.ack, .int .i64 x.bits, .int .i64 x.window, .int .i64 x.urgent, .int .i64 x.ty, .int .i64 x.code, .int .i64 x.rest, .bool x.nosum, .slice A n c, .slice D m d] 36)) := Lib.hid (by repeat (first | exact K.newAt (by first | rfl | (simp; done)) | refine K.oldAt (by first | (simp; done) | (simp; omega)) ?_))
  have q1 : Hid ((((w.alloc (.cells #[.int .i64 x.kind, .int .i64 x.sport, .int .i64 x.dport, .int .i64 x.seq, .int .i64 x.ack, .int .i64 x.bits, .int .i64 x.window, .int .i64 x.urgent, .int .i64 x.ty, .int .i64 x.code, .int .i64 x.rest, .bool x.nosum, .slice A n c, .slice D m d] 36)).alloc (.cells #[.int .i64 s.k, .int .i64 s.a, .int .i64 s.b, .int .i64 s.c, .int .i64 s.d] 27)).alloc (.cells #[.int .i64 t.k, .int .i64 t.a, .int .i64 t.b, .int .i64 t.c, .int .i64 t.d] 27)).heap[w.heap.size + 1]? = some (.cells #[.int .i64 s.k, .int .i64 s.a, .int .i64 s.b, .int .i64 s.c, .int .i64 s.d] 27)) := Lib.hid (by repeat (first | exact K.newAt (by first | rfl | (simp; done)) | refine K.oldAt (by first | (simp; done) | (simp; omega)) ?_))
  have q2 : Hid ((((w.alloc (.cells #[.int .i64 x.kind, .int .i64 x.sport, .int .i64 x.dport, .int .i64 x.seq, .int .i64 x.ack, .int .i64 x.bits, .int .i64 x.window, .int .i64 x.urgent, .int .i64 x.ty, .int .i64 x.code, .int .i64 x.rest, .bool x.nosum, .slice A n c, .slice D m d] 36)).alloc (.cells #[.int .i64 s.k, .int .i64 s.a, .int .i64 s.b, .int .i64 s.c, .int .i64 s.d] 27)).alloc (.cells #[.int .i64 t.k, .int .i64 t.a, .int .i64 t.b, .int .i64 t.c, .int .i64 t.d] 27)).heap[w.heap.size + 1 + 1]? = some (.cells #[.int .i64 t.k, .int .i64 t.a, .int .i64 t.b, .int .i64 t.c, .int .i64 t.d] 27)) := Lib.hid (by repeat (first | exact K.newAt (by first | rfl | (simp; done)) | refine K.oldAt (by first | (simp; done) | (simp; omega)) ?_))
  (try simp only at q0 q1 q2)
  have HB : Hid (Below w.heap.size w (((w.alloc (.cells #[.int .i64 x.kind, .int .i64 x.sport, .int .i64 x.dport, .int .i64 x.seq, .int .i64 x.ack, .int .i64 x.bits, .int .i64 x.window, .int .i64 x.urgent, .int .i64 x.ty, .int .i64 x.code, .int .i64 x.rest, .bool x.nosum, .slice A n c, .slice D m d] 36)).alloc (.cells #[.int .i64 s.k, .int .i64 s.a, .int .i64 s.b, .int .i64 s.c, .int .i64 s.d] 27)).alloc (.cells #[.int .i64 t.k, .int .i64 t.a, .int .i64 t.b, .int .i64 t.c, .int .i64 t.d] 27))) := Lib.hid (by go_grown)
  (try simp only at HB)
  go_enter Try.func26, Try.ntmps26
  go_wp2_with (first | (with_reducible refine loadA rfl _ rfl (w.heap.size + 1) rfl q1.out ?_) | (with_reducible refine loadA rfl _ rfl (w.heap.size + 2) rfl q2.out ?_))
  refine Calls.mono (pairSB s t true HP.out _) ?_
  rintro e w1 ⟨rfl, b1⟩
  have B1 := Lib.hid (bthen HB.out b1)
  have p0 := Lib.hid (K.below b1 q0.out)
  have p1 := Lib.hid (K.below b1 q1.out)
  have p2 := Lib.hid (K.below b1 q2.out)
  clear b1 q0 q1 q2 HB
  obtain ⟨c_0, c_1, c_2, c_3, c_4, c_5, c_6, c_7, c_8, c_9, c_10, c_11, c_12, c_13⟩ := K.cells14 p0.out
  have d_0 := K.cell p1.out 0 _ rfl
  go_wp2_with fail
  clear c_0 c_1 c_2 c_3 c_4 c_5 c_6 c_7 c_8 c_9 c_10 c_11 c_12 c_13
  clear d_0
  refine Calls.mono (okSB x A D n c m d s.k false HK.out hn hm2 _) ?_
  rintro e w2 ⟨rfl, b2⟩
  have B2 := Lib.hid (bthen B1.out b2)
  have r0 := Lib.hid (K.below b2 p0.out)
  have r1 := Lib.hid (K.below b2 p1.out)
  have r2 := Lib.hid (K.below b2 p2.out)
  clear b2 p0 p1 p2 B1
  go_wp2
  go_ret
  exact ⟨ret_int HR.out.symm, B2.out⟩
set_option maxHeartbeats 4000000 in
theorem usS_z0 (sport dport seq ack bits window urgent ty code rest : Int) (nosum : Bool) (s t : Ad) (A D : Option Addr) (n c m d : Nat) (os bs : List UInt8) (w : World) (hl : os.length = n) (hm : bs.length = m) (hp : pairA s t = true) (hk : Uh.ok (Uh.mk 0 sport dport seq ack bits window urgent ty code rest nosum) s.k n m = true) (hn : n ≤ 1048576) (hm2 : m ≤ 1048576) : Calls Try.prog 26 #[.agg #[.int .i64 0, .int .i64 sport, .int .i64 dport, .int .i64 seq, .int .i64 ack, .int .i64 bits, .int .i64 window, .int .i64 urgent, .int .i64 ty, .int .i64 code, .int .i64 rest, .bool nosum, .slice A n c, .slice D m d], .agg #[.int .i64 s.k, .int .i64 s.a, .int .i64 s.b, .int .i64 s.c, .int .i64 s.d], .agg #[.int .i64 t.k, .int .i64 t.a, .int .i64 t.b, .int .i64 t.c, .int .i64 t.d]] w fun e w' => e = .returned (.int .i64 (Uh.sum (Uh.mk 0 sport dport seq ack bits window urgent ty code rest nosum) os bs s t)) ∧ Below w.heap.size w w' := by
  have HP := Lib.hid hp
  have HK := Lib.hid hk
  have HR := Lib.hid (Uh.sum_zero (x := (Uh.mk 0 sport dport seq ack bits window urgent ty code rest nosum)) (o := os) (bs := bs) (a := s) (b := t) (by rw [hl, hm, hk, hp]; rfl) (by simp))
  clear hp hk hl hm
  have q0 : Hid ((((w.alloc (.cells #[.int .i64 0, .int .i64 sport, .int .i64 dport, .int .i64 seq, .int .i64 ack, .int .i64 bits, .int .i64 window, .int .i64 urgent, .int .i64 ty, .int .i64 code, .int .i64 rest, .bool nosum, .slice A n c, .slice D m d] 36)).alloc (.cells #[.int .i64 s.k, .int .i64 s.a, .int .i64 s.b, .int .i64 s.c, .int .i64 s.d] 27)).alloc (.cells #[.int .i64 t.k, .int .i64 t.a, .int .i64 t.b, .int .i64 t.c, .int .i64 t.d] 27)).heap[w.heap.size]? = some (.cells #[.int .i64 0, .int .i64 sport, .int .i64 dport, .int .i64 seq, .int .i64 ack, .int .i64 bits, .int .i64 window, .int .i64 urgent, .int .i64 ty, .int .i64 code, .int .i64 rest, .bool nosum, .slice A n c, .slice D m d] 36)) := Lib.hid (by repeat (first | exact K.newAt (by first | rfl | (simp; done)) | refine K.oldAt (by first | (simp; done) | (simp; omega)) ?_))
  have q1 : Hid ((((w.alloc (.cells #[.int .i64 0, .int .i64 sport, .int .i64 dport, .int .i64 seq, .int .i64 ack, .int .i64 bits, .int .i64 window, .int .i64 urgent, .int .i64 ty, .int .i64 code, .int .i64 rest, .bool nosum, .slice A n c, .slice D m d] 36)).alloc (.cells #[.int .i64 s.k, .int .i64 s.a, .int .i64 s.b, .int .i64 s.c, .int .i64 s.d] 27)).alloc (.cells #[.int .i64 t.k, .int .i64 t.a, .int .i64 t.b, .int .i64 t.c, .int .i64 t.d] 27)).heap[w.heap.size + 1]? = some (.cells #[.int .i64 s.k, .int .i64 s.a, .int .i64 s.b, .int .i64 s.c, .int .i64 s.d] 27)) := Lib.hid (by repeat (first | exact K.newAt (by first | rfl | (simp; done)) | refine K.oldAt (by first | (simp; done) | (simp; omega)) ?_))
  have q2 : Hid ((((w.alloc (.cells #[.int .i64 0, .int .i64 sport, .int .i64 dport, .int .i64 seq, .int .i64 ack, .int .i64 bits, .int .i64 window, .int .i64 urgent, .int .i64 ty, .int .i64 code, .int .i64 rest, .bool nosum, .slice A n c, .slice D m d] 36)).alloc (.cells #[.int .i64 s.k, .int .i64 s.a, .int .i64 s.b, .int .i64 s.c, .int .i64 s.d] 27)).alloc (.cells #[.int .i64 t.k, .int .i64 t.a, .int .i64 t.b, .int .i64 t.c, .int .i64 t.d] 27)).heap[w.heap.size + 1 + 1]? = some (.cells #[.int .i64 t.k, .int .i64 t.a, .int .i64 t.b, .int .i64 t.c, .int .i64 t.d] 27)) := Lib.hid (by repeat (first | exact K.newAt (by first | rfl | (simp; done)) | refine K.oldAt (by first | (simp; done) | (simp; omega)) ?_))
  (try simp only at q0 q1 q2)
  have HB : Hid (Below w.heap.size w (((w.alloc (.cells #[.int .i64 0, .int .i64 sport, .int .i64 dport, .int .i64 seq, .int .i64 ack, .int .i64 bits, .int .i64 window, .int .i64 urgent, .int .i64 ty, .int .i64 code, .int .i64 rest, .bool nosum, .slice A n c, .slice D m d] 36)).alloc (.cells #[.int .i64 s.k, .int .i64 s.a, .int .i64 s.b, .int .i64 s.c, .int .i64 s.d] 27)).alloc (.cells #[.int .i64 t.k, .int .i64 t.a, .int .i64 t.b, .int .i64 t.c, .int .i64 t.d] 27))) := Lib.hid (by go_grown)
  (try simp only at HB)
  go_enter Try.func26, Try.ntmps26
  go_wp2_with (first | (with_reducible refine loadA rfl _ rfl (w.heap.size + 1) rfl q1.out ?_) | (with_reducible refine loadA rfl _ rfl (w.heap.size + 2) rfl q2.out ?_))
  refine Calls.mono (pairSB s t true HP.out _) ?_
  rintro e w1 ⟨rfl, b1⟩
  have B1 := Lib.hid (bthen HB.out b1)
  have p0 := Lib.hid (K.below b1 q0.out)
  have p1 := Lib.hid (K.below b1 q1.out)
  have p2 := Lib.hid (K.below b1 q2.out)
  clear b1 q0 q1 q2 HB
  obtain ⟨c_0, c_1, c_2, c_3, c_4, c_5, c_6, c_7, c_8, c_9, c_10, c_11, c_12, c_13⟩ := K.cells14 p0.out
  have d_0 := K.cell p1.out 0 _ rfl
  go_wp2_with fail
  clear c_0 c_1 c_2 c_3 c_4 c_5 c_6 c_7 c_8 c_9 c_10 c_11 c_12 c_13
  clear d_0
  refine Calls.mono (okSB (Uh.mk 0 sport dport seq ack bits window urgent ty code rest nosum) A D n c m d s.k true HK.out hn hm2 _) ?_
  rintro e w2 ⟨rfl, b2⟩
  have B2 := Lib.hid (bthen B1.out b2)
  have r0 := Lib.hid (K.below b2 p0.out)
  have r1 := Lib.hid (K.below b2 p1.out)
  have r2 := Lib.hid (K.below b2 p2.out)
  clear b2 p0 p1 p2 B1
  have e0 := K.cell r0.out 0 _ rfl
  go_wp2
  go_ret
  exact ⟨ret_int HR.out.symm, B2.out⟩
set_option maxHeartbeats 4000000 in
theorem usS_z1 (kind sport dport seq ack bits window urgent ty code rest : Int) (s t : Ad) (A D : Option Addr) (n c m d : Nat) (os bs : List UInt8) (w : World) (hl : os.length = n) (hm : bs.length = m) (hp : pairA s t = true) (hk : Uh.ok (Uh.mk kind sport dport seq ack bits window urgent ty code rest true) s.k n m = true) (k0 : ¬ kind = 0) (hn : n ≤ 1048576) (hm2 : m ≤ 1048576) : Calls Try.prog 26 #[.agg #[.int .i64 kind, .int .i64 sport, .int .i64 dport, .int .i64 seq, .int .i64 ack, .int .i64 bits, .int .i64 window, .int .i64 urgent, .int .i64 ty, .int .i64 code, .int .i64 rest, .bool true, .slice A n c, .slice D m d], .agg #[.int .i64 s.k, .int .i64 s.a, .int .i64 s.b, .int .i64 s.c, .int .i64 s.d], .agg #[.int .i64 t.k, .int .i64 t.a, .int .i64 t.b, .int .i64 t.c, .int .i64 t.d]] w fun e w' => e = .returned (.int .i64 (Uh.sum (Uh.mk kind sport dport seq ack bits window urgent ty code rest true) os bs s t)) ∧ Below w.heap.size w w' := by
  have HP := Lib.hid hp
  have HK := Lib.hid hk
  have HR := Lib.hid (Uh.sum_zero (x := (Uh.mk kind sport dport seq ack bits window urgent ty code rest true)) (o := os) (bs := bs) (a := s) (b := t) (by rw [hl, hm, hk, hp]; rfl) (by simp))
  clear hp hk hl hm
  have q0 : Hid ((((w.alloc (.cells #[.int .i64 kind, .int .i64 sport, .int .i64 dport, .int .i64 seq, .int .i64 ack, .int .i64 bits, .int .i64 window, .int .i64 urgent, .int .i64 ty, .int .i64 code, .int .i64 rest, .bool true, .slice A n c, .slice D m d] 36)).alloc (.cells #[.int .i64 s.k, .int .i64 s.a, .int .i64 s.b, .int .i64 s.c, .int .i64 s.d] 27)).alloc (.cells #[.int .i64 t.k, .int .i64 t.a, .int .i64 t.b, .int .i64 t.c, .int .i64 t.d] 27)).heap[w.heap.size]? = some (.cells #[.int .i64 kind, .int .i64 sport, .int .i64 dport, .int .i64 seq, .int .i64 ack, .int .i64 bits, .int .i64 window, .int .i64 urgent, .int .i64 ty, .int .i64 code, .int .i64 rest, .bool true, .slice A n c, .slice D m d] 36)) := Lib.hid (by repeat (first | exact K.newAt (by first | rfl | (simp; done)) | refine K.oldAt (by first | (simp; done) | (simp; omega)) ?_))
  have q1 : Hid ((((w.alloc (.cells #[.int .i64 kind, .int .i64 sport, .int .i64 dport, .int .i64 seq, .int .i64 ack, .int .i64 bits, .int .i64 window, .int .i64 urgent, .int .i64 ty, .int .i64 code, .int .i64 rest, .bool true, .slice A n c, .slice D m d] 36)).alloc (.cells #[.int .i64 s.k, .int .i64 s.a, .int .i64 s.b, .int .i64 s.c, .int .i64 s.d] 27)).alloc (.cells #[.int .i64 t.k, .int .i64 t.a, .int .i64 t.b, .int .i64 t.c, .int .i64 t.d] 27)).heap[w.heap.size + 1]? = some (.cells #[.int .i64 s.k, .int .i64 s.a, .int .i64 s.b, .int .i64 s.c, .int .i64 s.d] 27)) := Lib.hid (by repeat (first | exact K.newAt (by first | rfl | (simp; done)) | refine K.oldAt (by first | (simp; done) | (simp; omega)) ?_))
  have q2 : Hid ((((w.alloc (.cells #[.int .i64 kind, .int .i64 sport, .int .i64 dport, .int .i64 seq, .int .i64 ack, .int .i64 bits, .int .i64 window, .int .i64 urgent, .int .i64 ty, .int .i64 code, .int .i64 rest, .bool true, .slice A n c, .slice D m d] 36)).alloc (.cells #[.int .i64 s.k, .int .i64 s.a, .int .i64 s.b, .int .i64 s.c, .int .i64 s.d] 27)).alloc (.cells #[.int .i64 t.k, .int .i64 t.a, .int .i64 t.b, .int .i64 t.c, .int .i64 t.d] 27)).heap[w.heap.size + 1 + 1]? = some (.cells #[.int .i64 t.k, .int .i64 t.a, .int .i64 t.b, .int .i64 t.c, .int .i64 t.d] 27)) := Lib.hid (by repeat (first | exact K.newAt (by first | rfl | (simp; done)) | refine K.oldAt (by first | (simp; done) | (simp; omega)) ?_))
  (try simp only at q0 q1 q2)
  have HB : Hid (Below w.heap.size w (((w.alloc (.cells #[.int .i64 kind, .int .i64 sport, .int .i64 dport, .int .i64 seq, .int .i64 ack, .int .i64 bits, .int .i64 window, .int .i64 urgent, .int .i64 ty, .int .i64 code, .int .i64 rest, .bool true, .slice A n c, .slice D m d] 36)).alloc (.cells #[.int .i64 s.k, .int .i64 s.a, .int .i64 s.b, .int .i64 s.c, .int .i64 s.d] 27)).alloc (.cells #[.int .i64 t.k, .int .i64 t.a, .int .i64 t.b, .int .i64 t.c, .int .i64 t.d] 27))) := Lib.hid (by go_grown)
  (try simp only at HB)
  go_enter Try.func26, Try.ntmps26
  go_wp2_with (first | (with_reducible refine loadA rfl _ rfl (w.heap.size + 1) rfl q1.out ?_) | (with_reducible refine loadA rfl _ rfl (w.heap.size + 2) rfl q2.out ?_))
  refine Calls.mono (pairSB s t true HP.out _) ?_
  rintro e w1 ⟨rfl, b1⟩
  have B1 := Lib.hid (bthen HB.out b1)
  have p0 := Lib.hid (K.below b1 q0.out)
  have p1 := Lib.hid (K.below b1 q1.out)
  have p2 := Lib.hid (K.below b1 q2.out)
  clear b1 q0 q1 q2 HB
  obtain ⟨c_0, c_1, c_2, c_3, c_4, c_5, c_6, c_7, c_8, c_9, c_10, c_11, c_12, c_13⟩ := K.cells14 p0.out
  have d_0 := K.cell p1.out 0 _ rfl
  go_wp2_with fail
  clear c_0 c_1 c_2 c_3 c_4 c_5 c_6 c_7 c_8 c_9 c_10 c_11 c_12 c_13
  clear d_0
  refine Calls.mono (okSB (Uh.mk kind sport dport seq ack bits window urgent ty code rest true) A D n c m d s.k true HK.out hn hm2 _) ?_
  rintro e w2 ⟨rfl, b2⟩
  have B2 := Lib.hid (bthen B1.out b2)
  have r0 := Lib.hid (K.below b2 p0.out)
  have r1 := Lib.hid (K.below b2 p1.out)
  have r2 := Lib.hid (K.below b2 p2.out)
  clear b2 p0 p1 p2 B1
  have e0 := K.cell r0.out 0 _ rfl
  have e1 := K.cell r0.out 11 _ rfl
  go_wp2
  go_ret
  exact ⟨ret_int HR.out.symm, B2.out⟩
set_option maxHeartbeats 4000000 in
theorem usS_y1 (sport dport seq ack bits window urgent ty code rest : Int) (s t : Ad) (A D : Option Addr) (n c m d : Nat) (os bs : List UInt8) (w : World) (hr : RB w w.heap.size A os) (hl : os.length = n) (hs : RB w w.heap.size D bs) (hm : bs.length = m) (hp : pairA s t = true) (hk : Uh.ok (Uh.mk 1 sport dport seq ack bits window urgent ty code rest false) s.k n m = true) : Calls Try.prog 26 #[.agg #[.int .i64 1, .int .i64 sport, .int .i64 dport, .int .i64 seq, .int .i64 ack, .int .i64 bits, .int .i64 window, .int .i64 urgent, .int .i64 ty, .int .i64 code, .int .i64 rest, .bool false, .slice A n c, .slice D m d], .agg #[.int .i64 s.k, .int .i64 s.a, .int .i64 s.b, .int .i64 s.c, .int .i64 s.d], .agg #[.int .i64 t.k, .int .i64 t.a, .int .i64 t.b, .int .i64 t.c, .int .i64 t.d]] w fun e w' => e = .returned (.int .i64 (Uh.sum (Uh.mk 1 sport dport seq ack bits window urgent ty code rest false) os bs s t)) ∧ Below w.heap.size w w' := by
  have HP := Lib.hid hp
  have HK := Lib.hid hk
  obtain ⟨hn, _, hm3, hz0, hz1⟩ := Uh.ok_room hk
  have hm2 : m ≤ 1048576 := by omega
  have hn4 : n ≤ 40 := hn
  replace hn : n ≤ 1048576 := by omega
  have HW1 := Lib.hid (Uh.top_word hp hk)
  have HW2 : Hid (isWord (onesSum (Uh.enc (Uh.mk 1 sport dport seq ack bits window urgent ty code rest false) os bs 0)) = true) := Lib.hid (Uh.enc_word (x := (Uh.mk 1 sport dport seq ack bits window urgent ty code rest false)) (k := s.k) (o := os) (bs := bs) (by rw [hl, hm]; exact hk) 0)
  have HR := Lib.hid (Uh.sum_yes (x := (Uh.mk 1 sport dport seq ack bits window urgent ty code rest false)) (o := os) (bs := bs) (a := s) (b := t) (by rw [hl, hm, hk, hp]; rfl) (by simp))
  rw [hl, hm] at HR
  have HLE := Lib.hid (Uh.enc_len (Uh.mk 1 sport dport seq ack bits window urgent ty code rest false) os bs 0 (by simp))
  rw [hl, hm] at HLE
  have HA := Lib.hid hr
  have HD := Lib.hid hs
  have HL := Lib.hid hl
  have HM := Lib.hid hm
  have hsz : Uh.size (Uh.mk 1 sport dport seq ack bits window urgent ty code rest false) n m = 20 + (n : Int) + m := rfl
  rw [hsz] at hz0 hz1 HLE
  have HT := Lib.hid (show Uh.top (Uh.mk 1 sport dport seq ack bits window urgent ty code rest false) n m s t = psSum s t 6 (20 + (n : Int) + m) by simp [Uh.top, Uh.size])
  have HS := Lib.hid (And.intro hz0 hz1)
  obtain ⟨L, hL⟩ : ∃ L, Uh.enc (Uh.mk 1 sport dport seq ack bits window urgent ty code rest false) os bs 0 = L := ⟨_, rfl⟩
  rw [hL] at HW2 HR HLE
  have HEN := Lib.hid hL
  obtain ⟨T, hT⟩ : ∃ T, Uh.top (Uh.mk 1 sport dport seq ack bits window urgent ty code rest false) n m s t = T := ⟨_, rfl⟩
  rw [hT] at HW1 HR HT
  have HTT := Lib.hid hT
  obtain ⟨O, hO⟩ : ∃ O, onesSum L = O := ⟨_, rfl⟩
  rw [hO] at HW2 HR
  have HO := Lib.hid hO
  clear hp hk hl hm hr hs hz0 hz1 hsz hL hT hO
  have q0 : Hid ((((w.alloc (.cells #[.int .i64 1, .int .i64 sport, .int .i64 dport, .int .i64 seq, .int .i64 ack, .int .i64 bits, .int .i64 window, .int .i64 urgent, .int .i64 ty, .int .i64 code, .int .i64 rest, .bool false, .slice A n c, .slice D m d] 36)).alloc (.cells #[.int .i64 s.k, .int .i64 s.a, .int .i64 s.b, .int .i64 s.c, .int .i64 s.d] 27)).alloc (.cells #[.int .i64 t.k, .int .i64 t.a, .int .i64 t.b, .int .i64 t.c, .int .i64 t.d] 27)).heap[w.heap.size]? = some (.cells #[.int .i64 1, .int .i64 sport, .int .i64 dport, .int .i64 seq, .int .i64 ack, .int .i64 bits, .int .i64 window, .int .i64 urgent, .int .i64 ty, .int .i64 code, .int .i64 rest, .bool false, .slice A n c, .slice D m d] 36)) := Lib.hid (by repeat (first | exact K.newAt (by first | rfl | (simp; done)) | refine K.oldAt (by first | (simp; done) | (simp; omega)) ?_))
  have q1 : Hid ((((w.alloc (.cells #[.int .i64 1, .int .i64 sport, .int .i64 dport, .int .i64 seq, .int .i64 ack, .int .i64 bits, .int .i64 window, .int .i64 urgent, .int .i64 ty, .int .i64 code, .int .i64 rest, .bool false, .slice A n c, .slice D m d] 36)).alloc (.cells #[.int .i64 s.k, .int .i64 s.a, .int .i64 s.b, .int .i64 s.c, .int .i64 s.d] 27)).alloc (.cells #[.int .i64 t.k, .int .i64 t.a, .int .i64 t.b, .int .i64 t.c, .int .i64 t.d] 27)).heap[w.heap.size + 1]? = some (.cells #[.int .i64 s.k, .int .i64 s.a, .int .i64 s.b, .int .i64 s.c, .int .i64 s.d] 27)) := Lib.hid (by repeat (first | exact K.newAt (by first | rfl | (simp; done)) | refine K.oldAt (by first | (simp; done) | (simp; omega)) ?_))
  have q2 : Hid ((((w.alloc (.cells #[.int .i64 1, .int .i64 sport, .int .i64 dport, .int .i64 seq, .int .i64 ack, .int .i64 bits, .int .i64 window, .int .i64 urgent, .int .i64 ty, .int .i64 code, .int .i64 rest, .bool false, .slice A n c, .slice D m d] 36)).alloc (.cells #[.int .i64 s.k, .int .i64 s.a, .int .i64 s.b, .int .i64 s.c, .int .i64 s.d] 27)).alloc (.cells #[.int .i64 t.k, .int .i64 t.a, .int .i64 t.b, .int .i64 t.c, .int .i64 t.d] 27)).heap[w.heap.size + 1 + 1]? = some (.cells #[.int .i64 t.k, .int .i64 t.a, .int .i64 t.b, .int .i64 t.c, .int .i64 t.d] 27)) := Lib.hid (by repeat (first | exact K.newAt (by first | rfl | (simp; done)) | refine K.oldAt (by first | (simp; done) | (simp; omega)) ?_))
  (try simp only at q0 q1 q2)
  have HB : Hid (Below w.heap.size w (((w.alloc (.cells #[.int .i64 1, .int .i64 sport, .int .i64 dport, .int .i64 seq, .int .i64 ack, .int .i64 bits, .int .i64 window, .int .i64 urgent, .int .i64 ty, .int .i64 code, .int .i64 rest, .bool false, .slice A n c, .slice D m d] 36)).alloc (.cells #[.int .i64 s.k, .int .i64 s.a, .int .i64 s.b, .int .i64 s.c, .int .i64 s.d] 27)).alloc (.cells #[.int .i64 t.k, .int .i64 t.a, .int .i64 t.b, .int .i64 t.c, .int .i64 t.d] 27))) := Lib.hid (by go_grown)
  (try simp only at HB)
  go_enter Try.func26, Try.ntmps26
  go_wp2_with (first | (with_reducible refine loadA rfl _ rfl (w.heap.size + 1) rfl q1.out ?_) | (with_reducible refine loadA rfl _ rfl (w.heap.size + 2) rfl q2.out ?_))
  refine Calls.mono (pairSB s t true HP.out _) ?_
  rintro e w1 ⟨rfl, b1⟩
  have B1 := Lib.hid (bthen HB.out b1)
  have p0 := Lib.hid (K.below b1 q0.out)
  have p1 := Lib.hid (K.below b1 q1.out)
  have p2 := Lib.hid (K.below b1 q2.out)
  clear b1 q0 q1 q2 HB
  obtain ⟨c_0, c_1, c_2, c_3, c_4, c_5, c_6, c_7, c_8, c_9, c_10, c_11, c_12, c_13⟩ := K.cells14 p0.out
  have d_0 := K.cell p1.out 0 _ rfl
  go_wp2_with fail
  clear c_0 c_1 c_2 c_3 c_4 c_5 c_6 c_7 c_8 c_9 c_10 c_11 c_12 c_13
  clear d_0
  refine Calls.mono (okSB (Uh.mk 1 sport dport seq ack bits window urgent ty code rest false) A D n c m d s.k true HK.out hn hm2 _) ?_
  rintro e w2 ⟨rfl, b2⟩
  have B2 := Lib.hid (bthen B1.out b2)
  have r0 := Lib.hid (K.below b2 p0.out)
  have r1 := Lib.hid (K.below b2 p1.out)
  have r2 := Lib.hid (K.below b2 p2.out)
  clear b2 p0 p1 p2 B1
  have e0 := K.cell r0.out 0 _ rfl
  have e1 := K.cell r0.out 11 _ rfl
  have f_k := K.cell r1.out 0 _ rfl
  go_wp2_with fail
  clear e0 e1 f_k
  refine wp_region_owns (by kernel_rfl) 5 68 [(0, 31), (1, 32), (2, 33), (3, 34), (4, 35)] _ ([.val (.agg #[.int .i64 s.k, .int .i64 s.a, .int .i64 s.b, .int .i64 s.c, .int .i64 s.d]), .val (.agg #[.int .i64 t.k, .int .i64 t.a, .int .i64 t.b, .int .i64 t.c, .int .i64 t.d]), .val (.agg #[.int .i64 1, .int .i64 sport, .int .i64 dport, .int .i64 seq, .int .i64 ack, .int .i64 bits, .int .i64 window, .int .i64 urgent, .int .i64 ty, .int .i64 code, .int .i64 rest, .bool false, .slice A n c, .slice D m d]), .val (.int .i64 (20 + (n : Int) + m)), .val (.int .i64 T)]) (by kernel_rfl) (by kernel_rfl) rfl rfl ?_ ?_
  · intro j o hj ho a' v K' hx hnd hB hK
    match j, hj, ho with
    | 0, _, ho =>
      obtain rfl := Option.some.inj ho
      have h0 : a'.eval (.tmp 4) = .pointer (some ⟨w.heap.size + 1, 0, none⟩) := (hx 4 (by decide)).trans rfl
      exact wp_load_row 27 _ rfl (w.heap.size + 1) h0 _ _ (0, 0) _ (K.below hB r1.out) Try.underlying27 rfl info_addrP (hK _ _ rfl (Below.refl _ _))
    | 1, _, ho =>
      obtain rfl := Option.some.inj ho
      have h0 : a'.eval (.tmp 5) = .pointer (some ⟨w.heap.size + 2, 0, none⟩) := (hx 5 (by decide)).trans rfl
      exact wp_load_row 27 _ rfl (w.heap.size + 2) h0 _ _ (0, 0) _ (K.below hB r2.out) Try.underlying27 rfl info_addrP (hK _ _ rfl (Below.refl _ _))
    | 2, _, ho =>
      obtain rfl := Option.some.inj ho
      have h0 : a'.eval (.tmp 3) = .pointer (some ⟨w.heap.size, 0, none⟩) := (hx 3 (by decide)).trans rfl
      exact wp_load_row 36 _ rfl (w.heap.size) h0 _ _ (0, 0) _ (K.below hB r0.out) Try.underlying36 rfl info_up (hK _ _ rfl (Below.refl _ _))
    | 3, _, ho =>
      obtain rfl := Option.some.inj ho
      have h0 : a'.eval (.tmp 33) = .agg #[.int .i64 1, .int .i64 sport, .int .i64 dport, .int .i64 seq, .int .i64 ack, .int .i64 bits, .int .i64 window, .int .i64 urgent, .int .i64 ty, .int .i64 code, .int .i64 rest, .bool false, .slice A n c, .slice D m d] := (owns_of hnd 2 33 (by kernel_rfl) :)
      refine u_upSizeS _ _ _ rfl h0 (Calls.mono (specUpSize (Uh.mk 1 sport dport seq ack bits window urgent ty code rest false) A D n c m d v (by omega) (by omega)) ?_)
      rintro e' v' ⟨rfl, b6⟩
      exact ⟨_, rfl, hK _ _ rfl b6⟩
    | 4, _, ho =>
      obtain rfl := Option.some.inj ho
      have h0 : a'.eval (.tmp 31) = .agg #[.int .i64 s.k, .int .i64 s.a, .int .i64 s.b, .int .i64 s.c, .int .i64 s.d] := (owns_of hnd 0 31 (by kernel_rfl) :)
      have h1 : a'.eval (.tmp 32) = .agg #[.int .i64 t.k, .int .i64 t.a, .int .i64 t.b, .int .i64 t.c, .int .i64 t.d] := (owns_of hnd 1 32 (by kernel_rfl) :)
      have h2 : a'.eval (.tmp 34) = .int .i64 (20 + (n : Int) + m) := (owns_of hnd 3 34 (by kernel_rfl) :)
      refine u_psS4 _ _ _ _ _ _ _ _ _ rfl h0 h1 rfl h2 (Calls.mono (psS s t 6 (20 + (n : Int) + m) v) ?_)
      rintro e' v' ⟨rfl, b6⟩
      exact ⟨_, rfl, hK _ _ (by rw [← HT.out]; rfl) b6⟩
    | j + 5, hj, _ => omega
  · intro f v hf hB
    have e0 : f 0 = (.agg #[.int .i64 s.k, .int .i64 s.a, .int .i64 s.b, .int .i64 s.c, .int .i64 s.d]) := hf (0, 31) (by decide)
    have e1 : f 1 = (.agg #[.int .i64 t.k, .int .i64 t.a, .int .i64 t.b, .int .i64 t.c, .int .i64 t.d]) := hf (1, 32) (by decide)
    have e2 : f 2 = (.agg #[.int .i64 1, .int .i64 sport, .int .i64 dport, .int .i64 seq, .int .i64 ack, .int .i64 bits, .int .i64 window, .int .i64 urgent, .int .i64 ty, .int .i64 code, .int .i64 rest, .bool false, .slice A n c, .slice D m d]) := hf (2, 33) (by decide)
    have e3 : f 3 = (.int .i64 (20 + (n : Int) + m)) := hf (3, 34) (by decide)
    have e4 : f 4 = (.int .i64 T) := hf (4, 35) (by decide)
    simp only [List.foldl_cons, List.foldl_nil, List.drop_succ_cons, List.drop_zero, e0, e1, e2, e3, e4]
    clear e0 e1 e2 e3 e4 hf
    go_simp
    have B3 := Lib.hid (bthen B2.out hB)
    have r3 := Lib.hid (K.below hB r0.out)
    clear hB
    go_wp2_with (with_reducible refine loadU rfl _ rfl w.heap.size rfl r3.out ?_)
    refine Calls.mono (encS (Uh.mk 1 sport dport seq ack bits window urgent ty code rest false) s.k 0 A D n c m d os bs _ ((HA.out.below B3.out).more B3.out.size) HL.out ((HD.out.below B3.out).more B3.out.size) HM.out HK.out) ?_
    rintro e w4 ⟨X4, y4, rfl, o4, b4⟩
    rw [HEN.out] at o4 ⊢
    have R4 := Lib.hid (RB.of_own o4)
    have B4 := Lib.hid (bthen B3.out b4)
    have r4 := Lib.hid (K.below b4 r3.out)
    clear o4 b4 r3
    go_wp2_with fail
    refine Calls.mono (specOnes X4 L.length y4 L _ R4.out rfl (by have := HLE.out; have := HS.out; omega)) ?_
    rintro e w5 ⟨rfl, rfl⟩
    rw [HO.out]
    go_wp2_with fail
    refine Calls.mono (specAddW T O _ HW1.out HW2.out) ?_
    rintro e w5 ⟨rfl, rfl⟩
    have f0 := K.cell r4.out 0 _ rfl
    have hw := isWord_iff.1 (sadd_word HW1.out HW2.out)
    have HU := Lib.hid (HR.out)
    generalize sadd T O = z at hw HU ⊢
    have HB9 := B4
    by_cases hz : 65535 - z = 0
    · have HV := Lib.hid (show Uh.sum (Uh.mk 1 sport dport seq ack bits window urgent ty code rest false) os bs s t = 0 by rw [HU.out]; simp [udp0, hz])
      clear HU
      go_wp2
      go_ret
      exact ⟨ret_int HV.out.symm, HB9.out⟩
    · have HV := Lib.hid (show Uh.sum (Uh.mk 1 sport dport seq ack bits window urgent ty code rest false) os bs s t = 65535 - z by rw [HU.out]; simp [udp0])
      clear HU
      go_wp2
      go_ret
      exact ⟨ret_int HV.out.symm, HB9.out⟩
set_option maxHeartbeats 4000000 in
theorem usS_y2 (sport dport seq ack bits window urgent ty code rest : Int) (s t : Ad) (A D : Option Addr) (n c m d : Nat) (os bs : List UInt8) (w : World) (hr : RB w w.heap.size A os) (hl : os.length = n) (hs : RB w w.heap.size D bs) (hm : bs.length = m) (hp : pairA s t = true) (hk : Uh.ok (Uh.mk 2 sport dport seq ack bits window urgent ty code rest false) s.k n m = true) : Calls Try.prog 26 #[.agg #[.int .i64 2, .int .i64 sport, .int .i64 dport, .int .i64 seq, .int .i64 ack, .int .i64 bits, .int .i64 window, .int .i64 urgent, .int .i64 ty, .int .i64 code, .int .i64 rest, .bool false, .slice A n c, .slice D m d], .agg #[.int .i64 s.k, .int .i64 s.a, .int .i64 s.b, .int .i64 s.c, .int .i64 s.d], .agg #[.int .i64 t.k, .int .i64 t.a, .int .i64 t.b, .int .i64 t.c, .int .i64 t.d]] w fun e w' => e = .returned (.int .i64 (Uh.sum (Uh.mk 2 sport dport seq ack bits window urgent ty code rest false) os bs s t)) ∧ Below w.heap.size w w' := by
  have HP := Lib.hid hp
  have HK := Lib.hid hk
  obtain ⟨hn, _, hm3, hz0, hz1⟩ := Uh.ok_room hk
  have hm2 : m ≤ 1048576 := by omega
  have hn4 : n ≤ 40 := hn
  replace hn : n ≤ 1048576 := by omega
  have HW1 := Lib.hid (Uh.top_word hp hk)
  have HW2 : Hid (isWord (onesSum (Uh.enc (Uh.mk 2 sport dport seq ack bits window urgent ty code rest false) os bs 0)) = true) := Lib.hid (Uh.enc_word (x := (Uh.mk 2 sport dport seq ack bits window urgent ty code rest false)) (k := s.k) (o := os) (bs := bs) (by rw [hl, hm]; exact hk) 0)
  have HR := Lib.hid (Uh.sum_yes (x := (Uh.mk 2 sport dport seq ack bits window urgent ty code rest false)) (o := os) (bs := bs) (a := s) (b := t) (by rw [hl, hm, hk, hp]; rfl) (by simp))
  rw [hl, hm] at HR
  have HLE := Lib.hid (Uh.enc_len (Uh.mk 2 sport dport seq ack bits window urgent ty code rest false) os bs 0 (by simp))
  rw [hl, hm] at HLE
  have HA := Lib.hid hr
  have HD := Lib.hid hs
  have HL := Lib.hid hl
  have HM := Lib.hid hm
  have hsz : Uh.size (Uh.mk 2 sport dport seq ack bits window urgent ty code rest false) n m = 8 + (m : Int) := rfl
  rw [hsz] at hz0 hz1 HLE
  have HT := Lib.hid (show Uh.top (Uh.mk 2 sport dport seq ack bits window urgent ty code rest false) n m s t = psSum s t 17 (8 + (m : Int)) by simp [Uh.top, Uh.size])
  have HS := Lib.hid (And.intro hz0 hz1)
  obtain ⟨L, hL⟩ : ∃ L, Uh.enc (Uh.mk 2 sport dport seq ack bits window urgent ty code rest false) os bs 0 = L := ⟨_, rfl⟩
  rw [hL] at HW2 HR HLE
  have HEN := Lib.hid hL
  obtain ⟨T, hT⟩ : ∃ T, Uh.top (Uh.mk 2 sport dport seq ack bits window urgent ty code rest false) n m s t = T := ⟨_, rfl⟩
  rw [hT] at HW1 HR HT
  have HTT := Lib.hid hT
  obtain ⟨O, hO⟩ : ∃ O, onesSum L = O := ⟨_, rfl⟩
  rw [hO] at HW2 HR
  have HO := Lib.hid hO
  clear hp hk hl hm hr hs hz0 hz1 hsz hL hT hO
  have q0 : Hid ((((w.alloc (.cells #[.int .i64 2, .int .i64 sport, .int .i64 dport, .int .i64 seq, .int .i64 ack, .int .i64 bits, .int .i64 window, .int .i64 urgent, .int .i64 ty, .int .i64 code, .int .i64 rest, .bool false, .slice A n c, .slice D m d] 36)).alloc (.cells #[.int .i64 s.k, .int .i64 s.a, .int .i64 s.b, .int .i64 s.c, .int .i64 s.d] 27)).alloc (.cells #[.int .i64 t.k, .int .i64 t.a, .int .i64 t.b, .int .i64 t.c, .int .i64 t.d] 27)).heap[w.heap.size]? = some (.cells #[.int .i64 2, .int .i64 sport, .int .i64 dport, .int .i64 seq, .int .i64 ack, .int .i64 bits, .int .i64 window, .int .i64 urgent, .int .i64 ty, .int .i64 code, .int .i64 rest, .bool false, .slice A n c, .slice D m d] 36)) := Lib.hid (by repeat (first | exact K.newAt (by first | rfl | (simp; done)) | refine K.oldAt (by first | (simp; done) | (simp; omega)) ?_))
  have q1 : Hid ((((w.alloc (.cells #[.int .i64 2, .int .i64 sport, .int .i64 dport, .int .i64 seq, .int .i64 ack, .int .i64 bits, .int .i64 window, .int .i64 urgent, .int .i64 ty, .int .i64 code, .int .i64 rest, .bool false, .slice A n c, .slice D m d] 36)).alloc (.cells #[.int .i64 s.k, .int .i64 s.a, .int .i64 s.b, .int .i64 s.c, .int .i64 s.d] 27)).alloc (.cells #[.int .i64 t.k, .int .i64 t.a, .int .i64 t.b, .int .i64 t.c, .int .i64 t.d] 27)).heap[w.heap.size + 1]? = some (.cells #[.int .i64 s.k, .int .i64 s.a, .int .i64 s.b, .int .i64 s.c, .int .i64 s.d] 27)) := Lib.hid (by repeat (first | exact K.newAt (by first | rfl | (simp; done)) | refine K.oldAt (by first | (simp; done) | (simp; omega)) ?_))
  have q2 : Hid ((((w.alloc (.cells #[.int .i64 2, .int .i64 sport, .int .i64 dport, .int .i64 seq, .int .i64 ack, .int .i64 bits, .int .i64 window, .int .i64 urgent, .int .i64 ty, .int .i64 code, .int .i64 rest, .bool false, .slice A n c, .slice D m d] 36)).alloc (.cells #[.int .i64 s.k, .int .i64 s.a, .int .i64 s.b, .int .i64 s.c, .int .i64 s.d] 27)).alloc (.cells #[.int .i64 t.k, .int .i64 t.a, .int .i64 t.b, .int .i64 t.c, .int .i64 t.d] 27)).heap[w.heap.size + 1 + 1]? = some (.cells #[.int .i64 t.k, .int .i64 t.a, .int .i64 t.b, .int .i64 t.c, .int .i64 t.d] 27)) := Lib.hid (by repeat (first | exact K.newAt (by first | rfl | (simp; done)) | refine K.oldAt (by first | (simp; done) | (simp; omega)) ?_))
  (try simp only at q0 q1 q2)
  have HB : Hid (Below w.heap.size w (((w.alloc (.cells #[.int .i64 2, .int .i64 sport, .int .i64 dport, .int .i64 seq, .int .i64 ack, .int .i64 bits, .int .i64 window, .int .i64 urgent, .int .i64 ty, .int .i64 code, .int .i64 rest, .bool false, .slice A n c, .slice D m d] 36)).alloc (.cells #[.int .i64 s.k, .int .i64 s.a, .int .i64 s.b, .int .i64 s.c, .int .i64 s.d] 27)).alloc (.cells #[.int .i64 t.k, .int .i64 t.a, .int .i64 t.b, .int .i64 t.c, .int .i64 t.d] 27))) := Lib.hid (by go_grown)
  (try simp only at HB)
  go_enter Try.func26, Try.ntmps26
  go_wp2_with (first | (with_reducible refine loadA rfl _ rfl (w.heap.size + 1) rfl q1.out ?_) | (with_reducible refine loadA rfl _ rfl (w.heap.size + 2) rfl q2.out ?_))
  refine Calls.mono (pairSB s t true HP.out _) ?_
  rintro e w1 ⟨rfl, b1⟩
  have B1 := Lib.hid (bthen HB.out b1)
  have p0 := Lib.hid (K.below b1 q0.out)
  have p1 := Lib.hid (K.below b1 q1.out)
  have p2 := Lib.hid (K.below b1 q2.out)
  clear b1 q0 q1 q2 HB
  obtain ⟨c_0, c_1, c_2, c_3, c_4, c_5, c_6, c_7, c_8, c_9, c_10, c_11, c_12, c_13⟩ := K.cells14 p0.out
  have d_0 := K.cell p1.out 0 _ rfl
  go_wp2_with fail
  clear c_0 c_1 c_2 c_3 c_4 c_5 c_6 c_7 c_8 c_9 c_10 c_11 c_12 c_13
  clear d_0
  refine Calls.mono (okSB (Uh.mk 2 sport dport seq ack bits window urgent ty code rest false) A D n c m d s.k true HK.out hn hm2 _) ?_
  rintro e w2 ⟨rfl, b2⟩
  have B2 := Lib.hid (bthen B1.out b2)
  have r0 := Lib.hid (K.below b2 p0.out)
  have r1 := Lib.hid (K.below b2 p1.out)
  have r2 := Lib.hid (K.below b2 p2.out)
  clear b2 p0 p1 p2 B1
  have e0 := K.cell r0.out 0 _ rfl
  have e1 := K.cell r0.out 11 _ rfl
  have f_k := K.cell r1.out 0 _ rfl
  go_wp2_with fail
  clear e0 e1 f_k
  refine wp_region_owns (by kernel_rfl) 5 68 [(0, 40), (1, 41), (2, 42), (3, 43), (4, 44)] _ ([.val (.agg #[.int .i64 s.k, .int .i64 s.a, .int .i64 s.b, .int .i64 s.c, .int .i64 s.d]), .val (.agg #[.int .i64 t.k, .int .i64 t.a, .int .i64 t.b, .int .i64 t.c, .int .i64 t.d]), .val (.agg #[.int .i64 2, .int .i64 sport, .int .i64 dport, .int .i64 seq, .int .i64 ack, .int .i64 bits, .int .i64 window, .int .i64 urgent, .int .i64 ty, .int .i64 code, .int .i64 rest, .bool false, .slice A n c, .slice D m d]), .val (.int .i64 (8 + (m : Int))), .val (.int .i64 T)]) (by kernel_rfl) (by kernel_rfl) rfl rfl ?_ ?_
  · intro j o hj ho a' v K' hx hnd hB hK
    match j, hj, ho with
    | 0, _, ho =>
      obtain rfl := Option.some.inj ho
      have h0 : a'.eval (.tmp 4) = .pointer (some ⟨w.heap.size + 1, 0, none⟩) := (hx 4 (by decide)).trans rfl
      exact wp_load_row 27 _ rfl (w.heap.size + 1) h0 _ _ (0, 0) _ (K.below hB r1.out) Try.underlying27 rfl info_addrP (hK _ _ rfl (Below.refl _ _))
    | 1, _, ho =>
      obtain rfl := Option.some.inj ho
      have h0 : a'.eval (.tmp 5) = .pointer (some ⟨w.heap.size + 2, 0, none⟩) := (hx 5 (by decide)).trans rfl
      exact wp_load_row 27 _ rfl (w.heap.size + 2) h0 _ _ (0, 0) _ (K.below hB r2.out) Try.underlying27 rfl info_addrP (hK _ _ rfl (Below.refl _ _))
    | 2, _, ho =>
      obtain rfl := Option.some.inj ho
      have h0 : a'.eval (.tmp 3) = .pointer (some ⟨w.heap.size, 0, none⟩) := (hx 3 (by decide)).trans rfl
      exact wp_load_row 36 _ rfl (w.heap.size) h0 _ _ (0, 0) _ (K.below hB r0.out) Try.underlying36 rfl info_up (hK _ _ rfl (Below.refl _ _))
    | 3, _, ho =>
      obtain rfl := Option.some.inj ho
      have h0 : a'.eval (.tmp 42) = .agg #[.int .i64 2, .int .i64 sport, .int .i64 dport, .int .i64 seq, .int .i64 ack, .int .i64 bits, .int .i64 window, .int .i64 urgent, .int .i64 ty, .int .i64 code, .int .i64 rest, .bool false, .slice A n c, .slice D m d] := (owns_of hnd 2 42 (by kernel_rfl) :)
      refine u_upSizeS _ _ _ rfl h0 (Calls.mono (specUpSize (Uh.mk 2 sport dport seq ack bits window urgent ty code rest false) A D n c m d v (by omega) (by omega)) ?_)
      rintro e' v' ⟨rfl, b6⟩
      exact ⟨_, rfl, hK _ _ rfl b6⟩
    | 4, _, ho =>
      obtain rfl := Option.some.inj ho
      have h0 : a'.eval (.tmp 40) = .agg #[.int .i64 s.k, .int .i64 s.a, .int .i64 s.b, .int .i64 s.c, .int .i64 s.d] := (owns_of hnd 0 40 (by kernel_rfl) :)
      have h1 : a'.eval (.tmp 41) = .agg #[.int .i64 t.k, .int .i64 t.a, .int .i64 t.b, .int .i64 t.c, .int .i64 t.d] := (owns_of hnd 1 41 (by kernel_rfl) :)
      have h2 : a'.eval (.tmp 43) = .int .i64 (8 + (m : Int)) := (owns_of hnd 3 43 (by kernel_rfl) :)
      refine u_psS4 _ _ _ _ _ _ _ _ _ rfl h0 h1 rfl h2 (Calls.mono (psS s t 17 (8 + (m : Int)) v) ?_)
      rintro e' v' ⟨rfl, b6⟩
      exact ⟨_, rfl, hK _ _ (by rw [← HT.out]; rfl) b6⟩
    | j + 5, hj, _ => omega
  · intro f v hf hB
    have e0 : f 0 = (.agg #[.int .i64 s.k, .int .i64 s.a, .int .i64 s.b, .int .i64 s.c, .int .i64 s.d]) := hf (0, 40) (by decide)
    have e1 : f 1 = (.agg #[.int .i64 t.k, .int .i64 t.a, .int .i64 t.b, .int .i64 t.c, .int .i64 t.d]) := hf (1, 41) (by decide)
    have e2 : f 2 = (.agg #[.int .i64 2, .int .i64 sport, .int .i64 dport, .int .i64 seq, .int .i64 ack, .int .i64 bits, .int .i64 window, .int .i64 urgent, .int .i64 ty, .int .i64 code, .int .i64 rest, .bool false, .slice A n c, .slice D m d]) := hf (2, 42) (by decide)
    have e3 : f 3 = (.int .i64 (8 + (m : Int))) := hf (3, 43) (by decide)
    have e4 : f 4 = (.int .i64 T) := hf (4, 44) (by decide)
    simp only [List.foldl_cons, List.foldl_nil, List.drop_succ_cons, List.drop_zero, e0, e1, e2, e3, e4]
    clear e0 e1 e2 e3 e4 hf
    go_simp
    have B3 := Lib.hid (bthen B2.out hB)
    have r3 := Lib.hid (K.below hB r0.out)
    clear hB
    go_wp2_with (with_reducible refine loadU rfl _ rfl w.heap.size rfl r3.out ?_)
    refine Calls.mono (encS (Uh.mk 2 sport dport seq ack bits window urgent ty code rest false) s.k 0 A D n c m d os bs _ ((HA.out.below B3.out).more B3.out.size) HL.out ((HD.out.below B3.out).more B3.out.size) HM.out HK.out) ?_
    rintro e w4 ⟨X4, y4, rfl, o4, b4⟩
    rw [HEN.out] at o4 ⊢
    have R4 := Lib.hid (RB.of_own o4)
    have B4 := Lib.hid (bthen B3.out b4)
    have r4 := Lib.hid (K.below b4 r3.out)
    clear o4 b4 r3
    go_wp2_with fail
    refine Calls.mono (specOnes X4 L.length y4 L _ R4.out rfl (by have := HLE.out; have := HS.out; omega)) ?_
    rintro e w5 ⟨rfl, rfl⟩
    rw [HO.out]
    go_wp2_with fail
    refine Calls.mono (specAddW T O _ HW1.out HW2.out) ?_
    rintro e w5 ⟨rfl, rfl⟩
    have f0 := K.cell r4.out 0 _ rfl
    have hw := isWord_iff.1 (sadd_word HW1.out HW2.out)
    have HU := Lib.hid (HR.out)
    generalize sadd T O = z at hw HU ⊢
    have HB9 := B4
    by_cases hz : 65535 - z = 0
    · have HV := Lib.hid (show Uh.sum (Uh.mk 2 sport dport seq ack bits window urgent ty code rest false) os bs s t = 65535 by rw [HU.out]; simp [udp0, hz])
      clear HU
      go_wp2
      go_ret
      exact ⟨ret_int HV.out.symm, HB9.out⟩
    · have HV := Lib.hid (show Uh.sum (Uh.mk 2 sport dport seq ack bits window urgent ty code rest false) os bs s t = 65535 - z by rw [HU.out]; simp [udp0, hz])
      clear HU
      go_wp2
      go_ret
      exact ⟨ret_int HV.out.symm, HB9.out⟩
set_option maxHeartbeats 4000000 in
theorem usS_y3_4 (sport dport seq ack bits window urgent ty code rest : Int) (sa sb sc sd : Int) (t : Ad) (A D : Option Addr) (n c m d : Nat) (os bs : List UInt8) (w : World) (hr : RB w w.heap.size A os) (hl : os.length = n) (hs : RB w w.heap.size D bs) (hm : bs.length = m) (hp : pairA (Ad.mk 4 sa sb sc sd) t = true) (hk : Uh.ok (Uh.mk 3 sport dport seq ack bits window urgent ty code rest false) (Ad.mk 4 sa sb sc sd).k n m = true) : Calls Try.prog 26 #[.agg #[.int .i64 3, .int .i64 sport, .int .i64 dport, .int .i64 seq, .int .i64 ack, .int .i64 bits, .int .i64 window, .int .i64 urgent, .int .i64 ty, .int .i64 code, .int .i64 rest, .bool false, .slice A n c, .slice D m d], .agg #[.int .i64 (Ad.mk 4 sa sb sc sd).k, .int .i64 (Ad.mk 4 sa sb sc sd).a, .int .i64 (Ad.mk 4 sa sb sc sd).b, .int .i64 (Ad.mk 4 sa sb sc sd).c, .int .i64 (Ad.mk 4 sa sb sc sd).d], .agg #[.int .i64 t.k, .int .i64 t.a, .int .i64 t.b, .int .i64 t.c, .int .i64 t.d]] w fun e w' => e = .returned (.int .i64 (Uh.sum (Uh.mk 3 sport dport seq ack bits window urgent ty code rest false) os bs (Ad.mk 4 sa sb sc sd) t)) ∧ Below w.heap.size w w' := by
  have HP := Lib.hid hp
  have HK := Lib.hid hk
  obtain ⟨hn, _, hm3, hz0, hz1⟩ := Uh.ok_room hk
  have hm2 : m ≤ 1048576 := by omega
  have hn4 : n ≤ 40 := hn
  replace hn : n ≤ 1048576 := by omega
  have HW1 := Lib.hid (Uh.top_word hp hk)
  have HW2 : Hid (isWord (onesSum (Uh.enc (Uh.mk 3 sport dport seq ack bits window urgent ty code rest false) os bs 0)) = true) := Lib.hid (Uh.enc_word (x := (Uh.mk 3 sport dport seq ack bits window urgent ty code rest false)) (k := (Ad.mk 4 sa sb sc sd).k) (o := os) (bs := bs) (by rw [hl, hm]; exact hk) 0)
  have HR := Lib.hid (Uh.sum_yes (x := (Uh.mk 3 sport dport seq ack bits window urgent ty code rest false)) (o := os) (bs := bs) (a := (Ad.mk 4 sa sb sc sd)) (b := t) (by rw [hl, hm, hk, hp]; rfl) (by simp))
  rw [hl, hm] at HR
  have HLE := Lib.hid (Uh.enc_len (Uh.mk 3 sport dport seq ack bits window urgent ty code rest false) os bs 0 (by simp))
  rw [hl, hm] at HLE
  have HA := Lib.hid hr
  have HD := Lib.hid hs
  have HL := Lib.hid hl
  have HM := Lib.hid hm
  have hsz : Uh.size (Uh.mk 3 sport dport seq ack bits window urgent ty code rest false) n m = 8 + (m : Int) := rfl
  rw [hsz] at hz0 hz1 HLE
  have HT := Lib.hid (show Uh.top (Uh.mk 3 sport dport seq ack bits window urgent ty code rest false) n m (Ad.mk 4 sa sb sc sd) t = 0 by simp [Uh.top])
  have HS := Lib.hid (And.intro hz0 hz1)
  obtain ⟨L, hL⟩ : ∃ L, Uh.enc (Uh.mk 3 sport dport seq ack bits window urgent ty code rest false) os bs 0 = L := ⟨_, rfl⟩
  rw [hL] at HW2 HR HLE
  have HEN := Lib.hid hL
  obtain ⟨T, hT⟩ : ∃ T, Uh.top (Uh.mk 3 sport dport seq ack bits window urgent ty code rest false) n m (Ad.mk 4 sa sb sc sd) t = T := ⟨_, rfl⟩
  rw [hT] at HW1 HR HT
  have HTT := Lib.hid hT
  obtain ⟨O, hO⟩ : ∃ O, onesSum L = O := ⟨_, rfl⟩
  rw [hO] at HW2 HR
  have HO := Lib.hid hO
  clear hp hk hl hm hr hs hz0 hz1 hsz hL hT hO
  have q0 : Hid ((((w.alloc (.cells #[.int .i64 3, .int .i64 sport, .int .i64 dport, .int .i64 seq, .int .i64 ack, .int .i64 bits, .int .i64 window, .int .i64 urgent, .int .i64 ty, .int .i64 code, .int .i64 rest, .bool false, .slice A n c, .slice D m d] 36)).alloc (.cells #[.int .i64 (Ad.mk 4 sa sb sc sd).k, .int .i64 (Ad.mk 4 sa sb sc sd).a, .int .i64 (Ad.mk 4 sa sb sc sd).b, .int .i64 (Ad.mk 4 sa sb sc sd).c, .int .i64 (Ad.mk 4 sa sb sc sd).d] 27)).alloc (.cells #[.int .i64 t.k, .int .i64 t.a, .int .i64 t.b, .int .i64 t.c, .int .i64 t.d] 27)).heap[w.heap.size]? = some (.cells #[.int .i64 3, .int .i64 sport, .int .i64 dport, .int .i64 seq, .int .i64 ack, .int .i64 bits, .int .i64 window, .int .i64 urgent, .int .i64 ty, .int .i64 code, .int .i64 rest, .bool false, .slice A n c, .slice D m d] 36)) := Lib.hid (by repeat (first | exact K.newAt (by first | rfl | (simp; done)) | refine K.oldAt (by first | (simp; done) | (simp; omega)) ?_))
  have q1 : Hid ((((w.alloc (.cells #[.int .i64 3, .int .i64 sport, .int .i64 dport, .int .i64 seq, .int .i64 ack, .int .i64 bits, .int .i64 window, .int .i64 urgent, .int .i64 ty, .int .i64 code, .int .i64 rest, .bool false, .slice A n c, .slice D m d] 36)).alloc (.cells #[.int .i64 (Ad.mk 4 sa sb sc sd).k, .int .i64 (Ad.mk 4 sa sb sc sd).a, .int .i64 (Ad.mk 4 sa sb sc sd).b, .int .i64 (Ad.mk 4 sa sb sc sd).c, .int .i64 (Ad.mk 4 sa sb sc sd).d] 27)).alloc (.cells #[.int .i64 t.k, .int .i64 t.a, .int .i64 t.b, .int .i64 t.c, .int .i64 t.d] 27)).heap[w.heap.size + 1]? = some (.cells #[.int .i64 (Ad.mk 4 sa sb sc sd).k, .int .i64 (Ad.mk 4 sa sb sc sd).a, .int .i64 (Ad.mk 4 sa sb sc sd).b, .int .i64 (Ad.mk 4 sa sb sc sd).c, .int .i64 (Ad.mk 4 sa sb sc sd).d] 27)) := Lib.hid (by repeat (first | exact K.newAt (by first | rfl | (simp; done)) | refine K.oldAt (by first | (simp; done) | (simp; omega)) ?_))
  have q2 : Hid ((((w.alloc (.cells #[.int .i64 3, .int .i64 sport, .int .i64 dport, .int .i64 seq, .int .i64 ack, .int .i64 bits, .int .i64 window, .int .i64 urgent, .int .i64 ty, .int .i64 code, .int .i64 rest, .bool false, .slice A n c, .slice D m d] 36)).alloc (.cells #[.int .i64 (Ad.mk 4 sa sb sc sd).k, .int .i64 (Ad.mk 4 sa sb sc sd).a, .int .i64 (Ad.mk 4 sa sb sc sd).b, .int .i64 (Ad.mk 4 sa sb sc sd).c, .int .i64 (Ad.mk 4 sa sb sc sd).d] 27)).alloc (.cells #[.int .i64 t.k, .int .i64 t.a, .int .i64 t.b, .int .i64 t.c, .int .i64 t.d] 27)).heap[w.heap.size + 1 + 1]? = some (.cells #[.int .i64 t.k, .int .i64 t.a, .int .i64 t.b, .int .i64 t.c, .int .i64 t.d] 27)) := Lib.hid (by repeat (first | exact K.newAt (by first | rfl | (simp; done)) | refine K.oldAt (by first | (simp; done) | (simp; omega)) ?_))
  (try simp only at q0 q1 q2)
  have HB : Hid (Below w.heap.size w (((w.alloc (.cells #[.int .i64 3, .int .i64 sport, .int .i64 dport, .int .i64 seq, .int .i64 ack, .int .i64 bits, .int .i64 window, .int .i64 urgent, .int .i64 ty, .int .i64 code, .int .i64 rest, .bool false, .slice A n c, .slice D m d] 36)).alloc (.cells #[.int .i64 (Ad.mk 4 sa sb sc sd).k, .int .i64 (Ad.mk 4 sa sb sc sd).a, .int .i64 (Ad.mk 4 sa sb sc sd).b, .int .i64 (Ad.mk 4 sa sb sc sd).c, .int .i64 (Ad.mk 4 sa sb sc sd).d] 27)).alloc (.cells #[.int .i64 t.k, .int .i64 t.a, .int .i64 t.b, .int .i64 t.c, .int .i64 t.d] 27))) := Lib.hid (by go_grown)
  (try simp only at HB)
  go_enter Try.func26, Try.ntmps26
  go_wp2_with (first | (with_reducible refine loadA rfl _ rfl (w.heap.size + 1) rfl q1.out ?_) | (with_reducible refine loadA rfl _ rfl (w.heap.size + 2) rfl q2.out ?_))
  refine Calls.mono (pairSB (Ad.mk 4 sa sb sc sd) t true HP.out _) ?_
  rintro e w1 ⟨rfl, b1⟩
  have B1 := Lib.hid (bthen HB.out b1)
  have p0 := Lib.hid (K.below b1 q0.out)
  have p1 := Lib.hid (K.below b1 q1.out)
  have p2 := Lib.hid (K.below b1 q2.out)
  clear b1 q0 q1 q2 HB
  obtain ⟨c_0, c_1, c_2, c_3, c_4, c_5, c_6, c_7, c_8, c_9, c_10, c_11, c_12, c_13⟩ := K.cells14 p0.out
  have d_0 := K.cell p1.out 0 _ rfl
  go_wp2_with fail
  clear c_0 c_1 c_2 c_3 c_4 c_5 c_6 c_7 c_8 c_9 c_10 c_11 c_12 c_13
  clear d_0
  refine Calls.mono (okSB (Uh.mk 3 sport dport seq ack bits window urgent ty code rest false) A D n c m d (Ad.mk 4 sa sb sc sd).k true HK.out hn hm2 _) ?_
  rintro e w2 ⟨rfl, b2⟩
  have B2 := Lib.hid (bthen B1.out b2)
  have r0 := Lib.hid (K.below b2 p0.out)
  have r1 := Lib.hid (K.below b2 p1.out)
  have r2 := Lib.hid (K.below b2 p2.out)
  clear b2 p0 p1 p2 B1
  have e0 := K.cell r0.out 0 _ rfl
  have e1 := K.cell r0.out 11 _ rfl
  have f_k := K.cell r1.out 0 _ rfl
  go_wp2_with (with_reducible refine loadU rfl _ rfl w.heap.size rfl r0.out ?_)
  clear e0 e1 f_k
  have B3 := B2
  have r3 := r0
  refine Calls.mono (encS (Uh.mk 3 sport dport seq ack bits window urgent ty code rest false) (Ad.mk 4 sa sb sc sd).k 0 A D n c m d os bs _ ((HA.out.below B3.out).more B3.out.size) HL.out ((HD.out.below B3.out).more B3.out.size) HM.out HK.out) ?_
  rintro e w4 ⟨X4, y4, rfl, o4, b4⟩
  rw [HEN.out] at o4 ⊢
  have R4 := Lib.hid (RB.of_own o4)
  have B4 := Lib.hid (bthen B3.out b4)
  have r4 := Lib.hid (K.below b4 r3.out)
  clear o4 b4 r3
  go_wp2_with fail
  refine Calls.mono (specOnes X4 L.length y4 L _ R4.out rfl (by have := HLE.out; have := HS.out; omega)) ?_
  rintro e w5 ⟨rfl, rfl⟩
  rw [HO.out]
  go_wp2_with fail
  refine Calls.mono (specAddW 0 O _ (by rfl) HW2.out) ?_
  rintro e w5 ⟨rfl, rfl⟩
  have f0 := K.cell r4.out 0 _ rfl
  rw [show (0 : Int) = T from HT.out.symm]
  have hw := isWord_iff.1 (sadd_word HW1.out HW2.out)
  have HU := Lib.hid (HR.out)
  generalize sadd T O = z at hw HU ⊢
  have HB9 := B4
  by_cases hz : 65535 - z = 0
  · have HV := Lib.hid (show Uh.sum (Uh.mk 3 sport dport seq ack bits window urgent ty code rest false) os bs (Ad.mk 4 sa sb sc sd) t = 0 by rw [HU.out]; simp [udp0, hz])
    clear HU
    go_wp2
    go_ret
    exact ⟨ret_int HV.out.symm, HB9.out⟩
  · have HV := Lib.hid (show Uh.sum (Uh.mk 3 sport dport seq ack bits window urgent ty code rest false) os bs (Ad.mk 4 sa sb sc sd) t = 65535 - z by rw [HU.out]; simp [udp0])
    clear HU
    go_wp2
    go_ret
    exact ⟨ret_int HV.out.symm, HB9.out⟩
set_option maxHeartbeats 4000000 in
theorem usS_y3_6 (sport dport seq ack bits window urgent ty code rest : Int) (sa sb sc sd : Int) (t : Ad) (A D : Option Addr) (n c m d : Nat) (os bs : List UInt8) (w : World) (hr : RB w w.heap.size A os) (hl : os.length = n) (hs : RB w w.heap.size D bs) (hm : bs.length = m) (hp : pairA (Ad.mk 6 sa sb sc sd) t = true) (hk : Uh.ok (Uh.mk 3 sport dport seq ack bits window urgent ty code rest false) (Ad.mk 6 sa sb sc sd).k n m = true) : Calls Try.prog 26 #[.agg #[.int .i64 3, .int .i64 sport, .int .i64 dport, .int .i64 seq, .int .i64 ack, .int .i64 bits, .int .i64 window, .int .i64 urgent, .int .i64 ty, .int .i64 code, .int .i64 rest, .bool false, .slice A n c, .slice D m d], .agg #[.int .i64 (Ad.mk 6 sa sb sc sd).k, .int .i64 (Ad.mk 6 sa sb sc sd).a, .int .i64 (Ad.mk 6 sa sb sc sd).b, .int .i64 (Ad.mk 6 sa sb sc sd).c, .int .i64 (Ad.mk 6 sa sb sc sd).d], .agg #[.int .i64 t.k, .int .i64 t.a, .int .i64 t.b, .int .i64 t.c, .int .i64 t.d]] w fun e w' => e = .returned (.int .i64 (Uh.sum (Uh.mk 3 sport dport seq ack bits window urgent ty code rest false) os bs (Ad.mk 6 sa sb sc sd) t)) ∧ Below w.heap.size w w' := by
  have HP := Lib.hid hp
  have HK := Lib.hid hk
  obtain ⟨hn, _, hm3, hz0, hz1⟩ := Uh.ok_room hk
  have hm2 : m ≤ 1048576 := by omega
  have hn4 : n ≤ 40 := hn
  replace hn : n ≤ 1048576 := by omega
  have HW1 := Lib.hid (Uh.top_word hp hk)
  have HW2 : Hid (isWord (onesSum (Uh.enc (Uh.mk 3 sport dport seq ack bits window urgent ty code rest false) os bs 0)) = true) := Lib.hid (Uh.enc_word (x := (Uh.mk 3 sport dport seq ack bits window urgent ty code rest false)) (k := (Ad.mk 6 sa sb sc sd).k) (o := os) (bs := bs) (by rw [hl, hm]; exact hk) 0)
  have HR := Lib.hid (Uh.sum_yes (x := (Uh.mk 3 sport dport seq ack bits window urgent ty code rest false)) (o := os) (bs := bs) (a := (Ad.mk 6 sa sb sc sd)) (b := t) (by rw [hl, hm, hk, hp]; rfl) (by simp))
  rw [hl, hm] at HR
  have HLE := Lib.hid (Uh.enc_len (Uh.mk 3 sport dport seq ack bits window urgent ty code rest false) os bs 0 (by simp))
  rw [hl, hm] at HLE
  have HA := Lib.hid hr
  have HD := Lib.hid hs
  have HL := Lib.hid hl
  have HM := Lib.hid hm
  have hsz : Uh.size (Uh.mk 3 sport dport seq ack bits window urgent ty code rest false) n m = 8 + (m : Int) := rfl
  rw [hsz] at hz0 hz1 HLE
  have HT := Lib.hid (show Uh.top (Uh.mk 3 sport dport seq ack bits window urgent ty code rest false) n m (Ad.mk 6 sa sb sc sd) t = psSum (Ad.mk 6 sa sb sc sd) t 58 (8 + (m : Int)) by simp [Uh.top, Uh.size])
  have HS := Lib.hid (And.intro hz0 hz1)
  obtain ⟨L, hL⟩ : ∃ L, Uh.enc (Uh.mk 3 sport dport seq ack bits window urgent ty code rest false) os bs 0 = L := ⟨_, rfl⟩
  rw [hL] at HW2 HR HLE
  have HEN := Lib.hid hL
  obtain ⟨T, hT⟩ : ∃ T, Uh.top (Uh.mk 3 sport dport seq ack bits window urgent ty code rest false) n m (Ad.mk 6 sa sb sc sd) t = T := ⟨_, rfl⟩
  rw [hT] at HW1 HR HT
  have HTT := Lib.hid hT
  obtain ⟨O, hO⟩ : ∃ O, onesSum L = O := ⟨_, rfl⟩
  rw [hO] at HW2 HR
  have HO := Lib.hid hO
  clear hp hk hl hm hr hs hz0 hz1 hsz hL hT hO
  have q0 : Hid ((((w.alloc (.cells #[.int .i64 3, .int .i64 sport, .int .i64 dport, .int .i64 seq, .int .i64 ack, .int .i64 bits, .int .i64 window, .int .i64 urgent, .int .i64 ty, .int .i64 code, .int .i64 rest, .bool false, .slice A n c, .slice D m d] 36)).alloc (.cells #[.int .i64 (Ad.mk 6 sa sb sc sd).k, .int .i64 (Ad.mk 6 sa sb sc sd).a, .int .i64 (Ad.mk 6 sa sb sc sd).b, .int .i64 (Ad.mk 6 sa sb sc sd).c, .int .i64 (Ad.mk 6 sa sb sc sd).d] 27)).alloc (.cells #[.int .i64 t.k, .int .i64 t.a, .int .i64 t.b, .int .i64 t.c, .int .i64 t.d] 27)).heap[w.heap.size]? = some (.cells #[.int .i64 3, .int .i64 sport, .int .i64 dport, .int .i64 seq, .int .i64 ack, .int .i64 bits, .int .i64 window, .int .i64 urgent, .int .i64 ty, .int .i64 code, .int .i64 rest, .bool false, .slice A n c, .slice D m d] 36)) := Lib.hid (by repeat (first | exact K.newAt (by first | rfl | (simp; done)) | refine K.oldAt (by first | (simp; done) | (simp; omega)) ?_))
  have q1 : Hid ((((w.alloc (.cells #[.int .i64 3, .int .i64 sport, .int .i64 dport, .int .i64 seq, .int .i64 ack, .int .i64 bits, .int .i64 window, .int .i64 urgent, .int .i64 ty, .int .i64 code, .int .i64 rest, .bool false, .slice A n c, .slice D m d] 36)).alloc (.cells #[.int .i64 (Ad.mk 6 sa sb sc sd).k, .int .i64 (Ad.mk 6 sa sb sc sd).a, .int .i64 (Ad.mk 6 sa sb sc sd).b, .int .i64 (Ad.mk 6 sa sb sc sd).c, .int .i64 (Ad.mk 6 sa sb sc sd).d] 27)).alloc (.cells #[.int .i64 t.k, .int .i64 t.a, .int .i64 t.b, .int .i64 t.c, .int .i64 t.d] 27)).heap[w.heap.size + 1]? = some (.cells #[.int .i64 (Ad.mk 6 sa sb sc sd).k, .int .i64 (Ad.mk 6 sa sb sc sd).a, .int .i64 (Ad.mk 6 sa sb sc sd).b, .int .i64 (Ad.mk 6 sa sb sc sd).c, .int .i64 (Ad.mk 6 sa sb sc sd).d] 27)) := Lib.hid (by repeat (first | exact K.newAt (by first | rfl | (simp; done)) | refine K.oldAt (by first | (simp; done) | (simp; omega)) ?_))
  have q2 : Hid ((((w.alloc (.cells #[.int .i64 3, .int .i64 sport, .int .i64 dport, .int .i64 seq, .int .i64 ack, .int .i64 bits, .int .i64 window, .int .i64 urgent, .int .i64 ty, .int .i64 code, .int .i64 rest, .bool false, .slice A n c, .slice D m d] 36)).alloc (.cells #[.int .i64 (Ad.mk 6 sa sb sc sd).k, .int .i64 (Ad.mk 6 sa sb sc sd).a, .int .i64 (Ad.mk 6 sa sb sc sd).b, .int .i64 (Ad.mk 6 sa sb sc sd).c, .int .i64 (Ad.mk 6 sa sb sc sd).d] 27)).alloc (.cells #[.int .i64 t.k, .int .i64 t.a, .int .i64 t.b, .int .i64 t.c, .int .i64 t.d] 27)).heap[w.heap.size + 1 + 1]? = some (.cells #[.int .i64 t.k, .int .i64 t.a, .int .i64 t.b, .int .i64 t.c, .int .i64 t.d] 27)) := Lib.hid (by repeat (first | exact K.newAt (by first | rfl | (simp; done)) | refine K.oldAt (by first | (simp; done) | (simp; omega)) ?_))
  (try simp only at q0 q1 q2)
  have HB : Hid (Below w.heap.size w (((w.alloc (.cells #[.int .i64 3, .int .i64 sport, .int .i64 dport, .int .i64 seq, .int .i64 ack, .int .i64 bits, .int .i64 window, .int .i64 urgent, .int .i64 ty, .int .i64 code, .int .i64 rest, .bool false, .slice A n c, .slice D m d] 36)).alloc (.cells #[.int .i64 (Ad.mk 6 sa sb sc sd).k, .int .i64 (Ad.mk 6 sa sb sc sd).a, .int .i64 (Ad.mk 6 sa sb sc sd).b, .int .i64 (Ad.mk 6 sa sb sc sd).c, .int .i64 (Ad.mk 6 sa sb sc sd).d] 27)).alloc (.cells #[.int .i64 t.k, .int .i64 t.a, .int .i64 t.b, .int .i64 t.c, .int .i64 t.d] 27))) := Lib.hid (by go_grown)
  (try simp only at HB)
  go_enter Try.func26, Try.ntmps26
  go_wp2_with (first | (with_reducible refine loadA rfl _ rfl (w.heap.size + 1) rfl q1.out ?_) | (with_reducible refine loadA rfl _ rfl (w.heap.size + 2) rfl q2.out ?_))
  refine Calls.mono (pairSB (Ad.mk 6 sa sb sc sd) t true HP.out _) ?_
  rintro e w1 ⟨rfl, b1⟩
  have B1 := Lib.hid (bthen HB.out b1)
  have p0 := Lib.hid (K.below b1 q0.out)
  have p1 := Lib.hid (K.below b1 q1.out)
  have p2 := Lib.hid (K.below b1 q2.out)
  clear b1 q0 q1 q2 HB
  obtain ⟨c_0, c_1, c_2, c_3, c_4, c_5, c_6, c_7, c_8, c_9, c_10, c_11, c_12, c_13⟩ := K.cells14 p0.out
  have d_0 := K.cell p1.out 0 _ rfl
  go_wp2_with fail
  clear c_0 c_1 c_2 c_3 c_4 c_5 c_6 c_7 c_8 c_9 c_10 c_11 c_12 c_13
  clear d_0
  refine Calls.mono (okSB (Uh.mk 3 sport dport seq ack bits window urgent ty code rest false) A D n c m d (Ad.mk 6 sa sb sc sd).k true HK.out hn hm2 _) ?_
  rintro e w2 ⟨rfl, b2⟩
  have B2 := Lib.hid (bthen B1.out b2)
  have r0 := Lib.hid (K.below b2 p0.out)
  have r1 := Lib.hid (K.below b2 p1.out)
  have r2 := Lib.hid (K.below b2 p2.out)
  clear b2 p0 p1 p2 B1
  have e0 := K.cell r0.out 0 _ rfl
  have e1 := K.cell r0.out 11 _ rfl
  have f_k := K.cell r1.out 0 _ rfl
  go_wp2_with fail
  clear e0 e1 f_k
  refine wp_region_owns (by kernel_rfl) 5 68 [(0, 49), (1, 50), (2, 51), (3, 52), (4, 53)] _ ([.val (.agg #[.int .i64 (Ad.mk 6 sa sb sc sd).k, .int .i64 (Ad.mk 6 sa sb sc sd).a, .int .i64 (Ad.mk 6 sa sb sc sd).b, .int .i64 (Ad.mk 6 sa sb sc sd).c, .int .i64 (Ad.mk 6 sa sb sc sd).d]), .val (.agg #[.int .i64 t.k, .int .i64 t.a, .int .i64 t.b, .int .i64 t.c, .int .i64 t.d]), .val (.agg #[.int .i64 3, .int .i64 sport, .int .i64 dport, .int .i64 seq, .int .i64 ack, .int .i64 bits, .int .i64 window, .int .i64 urgent, .int .i64 ty, .int .i64 code, .int .i64 rest, .bool false, .slice A n c, .slice D m d]), .val (.int .i64 (8 + (m : Int))), .val (.int .i64 T)]) (by kernel_rfl) (by kernel_rfl) rfl rfl ?_ ?_
  · intro j o hj ho a' v K' hx hnd hB hK
    match j, hj, ho with
    | 0, _, ho =>
      obtain rfl := Option.some.inj ho
      have h0 : a'.eval (.tmp 4) = .pointer (some ⟨w.heap.size + 1, 0, none⟩) := (hx 4 (by decide)).trans rfl
      exact wp_load_row 27 _ rfl (w.heap.size + 1) h0 _ _ (0, 0) _ (K.below hB r1.out) Try.underlying27 rfl info_addrP (hK _ _ rfl (Below.refl _ _))
    | 1, _, ho =>
      obtain rfl := Option.some.inj ho
      have h0 : a'.eval (.tmp 5) = .pointer (some ⟨w.heap.size + 2, 0, none⟩) := (hx 5 (by decide)).trans rfl
      exact wp_load_row 27 _ rfl (w.heap.size + 2) h0 _ _ (0, 0) _ (K.below hB r2.out) Try.underlying27 rfl info_addrP (hK _ _ rfl (Below.refl _ _))
    | 2, _, ho =>
      obtain rfl := Option.some.inj ho
      have h0 : a'.eval (.tmp 3) = .pointer (some ⟨w.heap.size, 0, none⟩) := (hx 3 (by decide)).trans rfl
      exact wp_load_row 36 _ rfl (w.heap.size) h0 _ _ (0, 0) _ (K.below hB r0.out) Try.underlying36 rfl info_up (hK _ _ rfl (Below.refl _ _))
    | 3, _, ho =>
      obtain rfl := Option.some.inj ho
      have h0 : a'.eval (.tmp 51) = .agg #[.int .i64 3, .int .i64 sport, .int .i64 dport, .int .i64 seq, .int .i64 ack, .int .i64 bits, .int .i64 window, .int .i64 urgent, .int .i64 ty, .int .i64 code, .int .i64 rest, .bool false, .slice A n c, .slice D m d] := (owns_of hnd 2 51 (by kernel_rfl) :)
      refine u_upSizeS _ _ _ rfl h0 (Calls.mono (specUpSize (Uh.mk 3 sport dport seq ack bits window urgent ty code rest false) A D n c m d v (by omega) (by omega)) ?_)
      rintro e' v' ⟨rfl, b6⟩
      exact ⟨_, rfl, hK _ _ rfl b6⟩
    | 4, _, ho =>
      obtain rfl := Option.some.inj ho
      have h0 : a'.eval (.tmp 49) = .agg #[.int .i64 (Ad.mk 6 sa sb sc sd).k, .int .i64 (Ad.mk 6 sa sb sc sd).a, .int .i64 (Ad.mk 6 sa sb sc sd).b, .int .i64 (Ad.mk 6 sa sb sc sd).c, .int .i64 (Ad.mk 6 sa sb sc sd).d] := (owns_of hnd 0 49 (by kernel_rfl) :)
      have h1 : a'.eval (.tmp 50) = .agg #[.int .i64 t.k, .int .i64 t.a, .int .i64 t.b, .int .i64 t.c, .int .i64 t.d] := (owns_of hnd 1 50 (by kernel_rfl) :)
      have h2 : a'.eval (.tmp 52) = .int .i64 (8 + (m : Int)) := (owns_of hnd 3 52 (by kernel_rfl) :)
      refine u_psS4 _ _ _ _ _ _ _ _ _ rfl h0 h1 rfl h2 (Calls.mono (psS (Ad.mk 6 sa sb sc sd) t 58 (8 + (m : Int)) v) ?_)
      rintro e' v' ⟨rfl, b6⟩
      exact ⟨_, rfl, hK _ _ (by rw [← HT.out]; rfl) b6⟩
    | j + 5, hj, _ => omega
  · intro f v hf hB
    have e0 : f 0 = (.agg #[.int .i64 (Ad.mk 6 sa sb sc sd).k, .int .i64 (Ad.mk 6 sa sb sc sd).a, .int .i64 (Ad.mk 6 sa sb sc sd).b, .int .i64 (Ad.mk 6 sa sb sc sd).c, .int .i64 (Ad.mk 6 sa sb sc sd).d]) := hf (0, 49) (by decide)
    have e1 : f 1 = (.agg #[.int .i64 t.k, .int .i64 t.a, .int .i64 t.b, .int .i64 t.c, .int .i64 t.d]) := hf (1, 50) (by decide)
    have e2 : f 2 = (.agg #[.int .i64 3, .int .i64 sport, .int .i64 dport, .int .i64 seq, .int .i64 ack, .int .i64 bits, .int .i64 window, .int .i64 urgent, .int .i64 ty, .int .i64 code, .int .i64 rest, .bool false, .slice A n c, .slice D m d]) := hf (2, 51) (by decide)
    have e3 : f 3 = (.int .i64 (8 + (m : Int))) := hf (3, 52) (by decide)
    have e4 : f 4 = (.int .i64 T) := hf (4, 53) (by decide)
    simp only [List.foldl_cons, List.foldl_nil, List.drop_succ_cons, List.drop_zero, e0, e1, e2, e3, e4]
    clear e0 e1 e2 e3 e4 hf
    go_simp
    have B3 := Lib.hid (bthen B2.out hB)
    have r3 := Lib.hid (K.below hB r0.out)
    clear hB
    go_wp2_with (with_reducible refine loadU rfl _ rfl w.heap.size rfl r3.out ?_)
    refine Calls.mono (encS (Uh.mk 3 sport dport seq ack bits window urgent ty code rest false) (Ad.mk 6 sa sb sc sd).k 0 A D n c m d os bs _ ((HA.out.below B3.out).more B3.out.size) HL.out ((HD.out.below B3.out).more B3.out.size) HM.out HK.out) ?_
    rintro e w4 ⟨X4, y4, rfl, o4, b4⟩
    rw [HEN.out] at o4 ⊢
    have R4 := Lib.hid (RB.of_own o4)
    have B4 := Lib.hid (bthen B3.out b4)
    have r4 := Lib.hid (K.below b4 r3.out)
    clear o4 b4 r3
    go_wp2_with fail
    refine Calls.mono (specOnes X4 L.length y4 L _ R4.out rfl (by have := HLE.out; have := HS.out; omega)) ?_
    rintro e w5 ⟨rfl, rfl⟩
    rw [HO.out]
    go_wp2_with fail
    refine Calls.mono (specAddW T O _ HW1.out HW2.out) ?_
    rintro e w5 ⟨rfl, rfl⟩
    have f0 := K.cell r4.out 0 _ rfl
    have hw := isWord_iff.1 (sadd_word HW1.out HW2.out)
    have HU := Lib.hid (HR.out)
    generalize sadd T O = z at hw HU ⊢
    have HB9 := B4
    by_cases hz : 65535 - z = 0
    · have HV := Lib.hid (show Uh.sum (Uh.mk 3 sport dport seq ack bits window urgent ty code rest false) os bs (Ad.mk 6 sa sb sc sd) t = 0 by rw [HU.out]; simp [udp0, hz])
      clear HU
      go_wp2
      go_ret
      exact ⟨ret_int HV.out.symm, HB9.out⟩
    · have HV := Lib.hid (show Uh.sum (Uh.mk 3 sport dport seq ack bits window urgent ty code rest false) os bs (Ad.mk 6 sa sb sc sd) t = 65535 - z by rw [HU.out]; simp [udp0])
      clear HU
      go_wp2
      go_ret
      exact ⟨ret_int HV.out.symm, HB9.out⟩
theorem usS (x : Uh) (s t : Ad) (A D : Option Addr) (n c m d : Nat) (os bs : List UInt8) (w : World) (hr : RB w w.heap.size A os) (hl : os.length = n) (hs : RB w w.heap.size D bs) (hm : bs.length = m) (hn : n ≤ 1048576) (hm2 : m ≤ 1048576) : Calls Try.prog 26 #[.agg #[.int .i64 x.kind, .int .i64 x.sport, .int .i64 x.dport, .int .i64 x.seq, .int .i64 x.ack, .int .i64 x.bits, .int .i64 x.window, .int .i64 x.urgent, .int .i64 x.ty, .int .i64 x.code, .int .i64 x.rest, .bool x.nosum, .slice A n c, .slice D m d], .agg #[.int .i64 s.k, .int .i64 s.a, .int .i64 s.b, .int .i64 s.c, .int .i64 s.d], .agg #[.int .i64 t.k, .int .i64 t.a, .int .i64 t.b, .int .i64 t.c, .int .i64 t.d]] w fun e w' => e = .returned (.int .i64 (x.sum os bs s t)) ∧ Below w.heap.size w w' := by
  cases hp : pairA s t with
  | false => exact usS_no1 x s t A D n c m d os bs w hp
  | true =>
    cases hk : x.ok s.k n m with
    | false => exact usS_no2 x s t A D n c m d os bs w hl hm hp hk hn hm2
    | true =>
      have hkk := Uh.ok_kind hk
      have hsk : s.k = 4 ∨ s.k = 6 := by have := (Uh.ok_facts hk).1; simpa [kindB] using this
      obtain ⟨kind, sport, dport, seq, ack, bits, window, urgent, ty, code, rest, nosum⟩ := x
      try simp only at hkk
      by_cases h0 : kind = 0
      · subst h0
        exact usS_z0 sport dport seq ack bits window urgent ty code rest nosum s t A D n c m d os bs w hl hm hp hk hn hm2
      · cases nosum with
        | true => exact usS_z1 kind sport dport seq ack bits window urgent ty code rest s t A D n c m d os bs w hl hm hp hk h0 hn hm2
        | false =>
          rcases hkk with rfl | rfl | rfl | rfl
          · exact absurd rfl h0
          · exact usS_y1 sport dport seq ack bits window urgent ty code rest s t A D n c m d os bs w hr hl hs hm hp hk
          · exact usS_y2 sport dport seq ack bits window urgent ty code rest s t A D n c m d os bs w hr hl hs hm hp hk
          · obtain ⟨sk, sa, sb, sc, sd⟩ := s
            try simp only at hsk
            rcases hsk with rfl | rfl
            · exact usS_y3_4 sport dport seq ack bits window urgent ty code rest sa sb sc sd t A D n c m d os bs w hr hl hs hm hp hk
            · exact usS_y3_6 sport dport seq ack bits window urgent ty code rest sa sb sc sd t A D n c m d os bs w hr hl hs hm hp hk
end Go.Proofs.Ythogonpjkngpjaa
