/-
  What the program reads behind the length of an IPv4 head. An IPv4 packet is read by the program: what fourOf answers. An IPv4 packet is read by the program: its checksum. A region that draws its order, with a chain of operations in forced order: what an operation left in its slot may change from one link of the chain to the next. Plain: any program. An IPv4 packet is read by the program. A region that draws its order, with a chain of operations in forced order: what an operation leaves may change from one link of the chain to the next. Plain: any program. FourBytes, in the model and in the program: its last region draws its order. An IPv4 packet is read by the program: where it is read.
-/
import Derived.Test.YtegpaocoepcemaaPReader
import Derived.Test.YtegpaocoepcemaaFourReg
import Derived.Deep.Cut
import Derived.Test.YtegpaocoepcemaaFourRdLib
import Derived.Test.YtegpaocoepcemaaKdC
import Derived.Test.YtegpaocoepcemaaRegChain
namespace Go.Proofs.Ytegpaocoepcemaa
set_option maxRecDepth 100000
open Go.RowKit

set_option maxRecDepth 100000 in
set_option maxHeartbeats 4000000 in
theorem afterC (w : World) (g : Nat) (a : Addr) (n c : Nat) (bs : List UInt8) (y : Fh) (A D : Option Addr) (n1 c1 m1 d1 : Nat) (v4 v6 v8 v9 v10 v12 v16 : Nat) (h : Rp w g (some a) n c bs 4) (hn : 20 ≤ n)
    (e4 : num bs 4 2 = v4) (e6 : num bs 6 2 = v6) (e8 : num bs 8 1 = v8) (e9 : num bs 9 1 = v9) (e10 : num bs 10 2 = v10) (e12 : num bs 12 4 = v12) (e16 : num bs 16 4 = v16) :
    Calls Try.prog 103 #[.pointer (some ⟨g, 0, none⟩), .agg #[.int .i64 y.dscp, .int .i64 y.ecn, .int .i64 y.id, .int .i64 y.flags, .int .i64 y.frag, .int .i64 y.ttl, .int .i64 y.proto, .int .i64 y.src.k, .int .i64 y.src.a, .int .i64 y.src.b, .int .i64 y.src.c, .int .i64 y.src.d, .int .i64 y.dst.k, .int .i64 y.dst.a, .int .i64 y.dst.b, .int .i64 y.dst.c, .int .i64 y.dst.d, .slice A n1 c1, .slice D m1 d1]] w fun e w' => e = .returned (.tuple #[.agg #[.int .i64 y.dscp, .int .i64 y.ecn, .int .i64 (v4 : Int), .int .i64 ((v6 : Int) / 8192), .int .i64 ((v6 : Int) % 8192), .int .i64 (v8 : Int), .int .i64 (v9 : Int), .int .i64 4, .int .i64 0, .int .i64 0, .int .i64 0, .int .i64 (v12 : Int), .int .i64 4, .int .i64 0, .int .i64 0, .int .i64 0, .int .i64 (v16 : Int), .slice A n1 c1, .slice D m1 d1], .int .i64 (v10 : Int)]) ∧ Rp w' g (some a) n c bs 20 ∧ w.grownBy w' (some g) := by
  have hb6 : v6 < 65536 := by rw [← e6]; exact num_lt2 bs 6
  have hgl := h.lt
  have h0 := Lib.hid (h.below (Joins.below_alloc2 w (.cells #[.int .i64 y.dscp, .int .i64 y.ecn, .int .i64 y.id, .int .i64 y.flags, .int .i64 y.frag, .int .i64 y.ttl, .int .i64 y.proto, .int .i64 y.src.k, .int .i64 y.src.a, .int .i64 y.src.b, .int .i64 y.src.c, .int .i64 y.src.d, .int .i64 y.dst.k, .int .i64 y.dst.a, .int .i64 y.dst.b, .int .i64 y.dst.c, .int .i64 y.dst.d, .slice A n1 c1, .slice D m1 d1] 52) (.cells #[.int .i64 0, .int .i64 0, .int .i64 0, .int .i64 0, .int .i64 0, .int .i64 0, .int .i64 0, .int .i64 0, .int .i64 0, .int .i64 0, .int .i64 0, .int .i64 0, .int .i64 0, .int .i64 0, .int .i64 0, .int .i64 0, .int .i64 0, .slice none 0 0, .slice none 0 0] 52)))
  have q0 := Lib.hid (show ((w.alloc (.cells #[.int .i64 y.dscp, .int .i64 y.ecn, .int .i64 y.id, .int .i64 y.flags, .int .i64 y.frag, .int .i64 y.ttl, .int .i64 y.proto, .int .i64 y.src.k, .int .i64 y.src.a, .int .i64 y.src.b, .int .i64 y.src.c, .int .i64 y.src.d, .int .i64 y.dst.k, .int .i64 y.dst.a, .int .i64 y.dst.b, .int .i64 y.dst.c, .int .i64 y.dst.d, .slice A n1 c1, .slice D m1 d1] 52)).alloc (.cells #[.int .i64 0, .int .i64 0, .int .i64 0, .int .i64 0, .int .i64 0, .int .i64 0, .int .i64 0, .int .i64 0, .int .i64 0, .int .i64 0, .int .i64 0, .int .i64 0, .int .i64 0, .int .i64 0, .int .i64 0, .int .i64 0, .int .i64 0, .slice none 0 0, .slice none 0 0] 52)).heap[w.heap.size]? = some (.cells #[.int .i64 y.dscp, .int .i64 y.ecn, .int .i64 y.id, .int .i64 y.flags, .int .i64 y.frag, .int .i64 y.ttl, .int .i64 y.proto, .int .i64 y.src.k, .int .i64 y.src.a, .int .i64 y.src.b, .int .i64 y.src.c, .int .i64 y.src.d, .int .i64 y.dst.k, .int .i64 y.dst.a, .int .i64 y.dst.b, .int .i64 y.dst.c, .int .i64 y.dst.d, .slice A n1 c1, .slice D m1 d1] 52 (0, 0)) from (by repeat (first | exact K.newAt (by first | rfl | (simp; done)) | refine K.oldAt (by first | (simp; done) | (simp; omega)) ?_)))
  have z0 := Lib.hid (show ((w.alloc (.cells #[.int .i64 y.dscp, .int .i64 y.ecn, .int .i64 y.id, .int .i64 y.flags, .int .i64 y.frag, .int .i64 y.ttl, .int .i64 y.proto, .int .i64 y.src.k, .int .i64 y.src.a, .int .i64 y.src.b, .int .i64 y.src.c, .int .i64 y.src.d, .int .i64 y.dst.k, .int .i64 y.dst.a, .int .i64 y.dst.b, .int .i64 y.dst.c, .int .i64 y.dst.d, .slice A n1 c1, .slice D m1 d1] 52)).alloc (.cells #[.int .i64 0, .int .i64 0, .int .i64 0, .int .i64 0, .int .i64 0, .int .i64 0, .int .i64 0, .int .i64 0, .int .i64 0, .int .i64 0, .int .i64 0, .int .i64 0, .int .i64 0, .int .i64 0, .int .i64 0, .int .i64 0, .int .i64 0, .slice none 0 0, .slice none 0 0] 52)).heap[w.heap.size + 1]? = some (.cells #[.int .i64 0, .int .i64 0, .int .i64 0, .int .i64 0, .int .i64 0, .int .i64 0, .int .i64 0, .int .i64 0, .int .i64 0, .int .i64 0, .int .i64 0, .int .i64 0, .int .i64 0, .int .i64 0, .int .i64 0, .int .i64 0, .int .i64 0, .slice none 0 0, .slice none 0 0] 52 (0, 0)) from (by repeat (first | exact K.newAt (by first | rfl | (simp; done)) | refine K.oldAt (by first | (simp; done) | (simp; omega)) ?_)))
  have G0 := Lib.hid (show w.grownBy ((w.alloc (.cells #[.int .i64 y.dscp, .int .i64 y.ecn, .int .i64 y.id, .int .i64 y.flags, .int .i64 y.frag, .int .i64 y.ttl, .int .i64 y.proto, .int .i64 y.src.k, .int .i64 y.src.a, .int .i64 y.src.b, .int .i64 y.src.c, .int .i64 y.src.d, .int .i64 y.dst.k, .int .i64 y.dst.a, .int .i64 y.dst.b, .int .i64 y.dst.c, .int .i64 y.dst.d, .slice A n1 c1, .slice D m1 d1] 52)).alloc (.cells #[.int .i64 0, .int .i64 0, .int .i64 0, .int .i64 0, .int .i64 0, .int .i64 0, .int .i64 0, .int .i64 0, .int .i64 0, .int .i64 0, .int .i64 0, .int .i64 0, .int .i64 0, .int .i64 0, .int .i64 0, .int .i64 0, .int .i64 0, .slice none 0 0, .slice none 0 0] 52)) (some g) from only_new (only_new (K.refl w _) _) _)
  have E := Lib.hid (And.intro e4 (And.intro e6 (And.intro e8 (And.intro e9 (And.intro e10 (And.intro e12 e16))))))
  clear h e4 e6 e8 e9 e10 e12 e16
  go_enter Try.func103, Try.ntmps103
  go_wp2_with fail
  refine Calls.mono (numberP _ g (some a) n c bs 4 2 v4 E.out.1 h0.out (by omega) (by omega) (by omega)) ?_
  rintro e w1 ⟨rfl, r1, g1⟩
  have p1 := Lib.hid (K.kept g1 q0.out (fun k hk => by cases hk; omega))
  have y1 := Lib.hid (K.kept g1 z0.out (fun k hk => by cases hk; omega))
  have F1 := Lib.hid (grownBy_trans G0.out g1)
  have S1 := Lib.hid r1
  clear r1 g1
  have u2 := K.cell p1.out 2 _ rfl
  have x2 := frozen_of_row _ _ 2 _ _ p1.out
  go_wp2_with fail
  clear u2 x2
  have GS1 := Lib.hid (K.setFrom_self [.int .i64 (v4 : Int)] w1 w.heap.size 2)
  have q1 : Hid ((K.setFrom w1 w.heap.size 2 [.int .i64 (v4 : Int)]).heap[w.heap.size]? = some (.cells #[.int .i64 y.dscp, .int .i64 y.ecn, .int .i64 (v4 : Int), .int .i64 y.flags, .int .i64 y.frag, .int .i64 y.ttl, .int .i64 y.proto, .int .i64 y.src.k, .int .i64 y.src.a, .int .i64 y.src.b, .int .i64 y.src.c, .int .i64 y.src.d, .int .i64 y.dst.k, .int .i64 y.dst.a, .int .i64 y.dst.b, .int .i64 y.dst.c, .int .i64 y.dst.d, .slice A n1 c1, .slice D m1 d1] 52 (0, 0))) := Lib.hid (K.set (p1.out) 2 (.int .i64 (v4 : Int)))
  have z1 := Lib.hid (K.setFrom_other [.int .i64 (v4 : Int)] 2 y1.out (show w.heap.size + 1 ≠ w.heap.size by omega))
  have G1 := Lib.hid (grown_other F1.out GS1.out (fun u hu => by cases hu; exact Nat.le_refl _))
  have h1 := Lib.hid (S1.out.away GS1.out (fun q hq => by cases hq; exact hgl))
  refine Calls.mono (splitP_13 _ g (some a) n c bs 6 2 v6 E.out.2.1 hb6 h1.out (by omega) (by omega) (by omega)) ?_
  rintro e w2 ⟨rfl, r2, g2⟩
  have p2 := Lib.hid (K.kept g2 q1.out (fun k hk => by cases hk; omega))
  have y2 := Lib.hid (K.kept g2 z1.out (fun k hk => by cases hk; omega))
  have F2 := Lib.hid (grownBy_trans G1.out g2)
  have S2 := Lib.hid r2
  clear r2 g2
  have u3 := K.cell p2.out 3 _ rfl
  have x3 := frozen_of_row _ _ 3 _ _ p2.out
  have u4 := K.cell p2.out 4 _ rfl
  have x4 := frozen_of_row _ _ 4 _ _ p2.out
  go_wp2_with fail
  clear u3 x3 u4 x4
  have GS2 := Lib.hid (K.setFrom_self [.int .i64 ((v6 : Int) / 8192), .int .i64 ((v6 : Int) % 8192)] w2 w.heap.size 3)
  have q2 : Hid ((K.setFrom w2 w.heap.size 3 [.int .i64 ((v6 : Int) / 8192), .int .i64 ((v6 : Int) % 8192)]).heap[w.heap.size]? = some (.cells #[.int .i64 y.dscp, .int .i64 y.ecn, .int .i64 (v4 : Int), .int .i64 ((v6 : Int) / 8192), .int .i64 ((v6 : Int) % 8192), .int .i64 y.ttl, .int .i64 y.proto, .int .i64 y.src.k, .int .i64 y.src.a, .int .i64 y.src.b, .int .i64 y.src.c, .int .i64 y.src.d, .int .i64 y.dst.k, .int .i64 y.dst.a, .int .i64 y.dst.b, .int .i64 y.dst.c, .int .i64 y.dst.d, .slice A n1 c1, .slice D m1 d1] 52 (0, 0))) := Lib.hid (K.set (K.set (p2.out) 3 (.int .i64 ((v6 : Int) / 8192))) 4 (.int .i64 ((v6 : Int) % 8192)))
  have z2 := Lib.hid (K.setFrom_other [.int .i64 ((v6 : Int) / 8192), .int .i64 ((v6 : Int) % 8192)] 3 y2.out (show w.heap.size + 1 ≠ w.heap.size by omega))
  have G2 := Lib.hid (grown_other F2.out GS2.out (fun u hu => by cases hu; exact Nat.le_refl _))
  have h2 := Lib.hid (S2.out.away GS2.out (fun q hq => by cases hq; exact hgl))
  refine Calls.mono (numberP _ g (some a) n c bs 8 1 v8 E.out.2.2.1 h2.out (by omega) (by omega) (by omega)) ?_
  rintro e w3 ⟨rfl, r3, g3⟩
  have p3 := Lib.hid (K.kept g3 q2.out (fun k hk => by cases hk; omega))
  have y3 := Lib.hid (K.kept g3 z2.out (fun k hk => by cases hk; omega))
  have F3 := Lib.hid (grownBy_trans G2.out g3)
  have S3 := Lib.hid r3
  clear r3 g3
  have u5 := K.cell p3.out 5 _ rfl
  have x5 := frozen_of_row _ _ 5 _ _ p3.out
  go_wp2_with fail
  clear u5 x5
  have GS3 := Lib.hid (K.setFrom_self [.int .i64 (v8 : Int)] w3 w.heap.size 5)
  have q3 : Hid ((K.setFrom w3 w.heap.size 5 [.int .i64 (v8 : Int)]).heap[w.heap.size]? = some (.cells #[.int .i64 y.dscp, .int .i64 y.ecn, .int .i64 (v4 : Int), .int .i64 ((v6 : Int) / 8192), .int .i64 ((v6 : Int) % 8192), .int .i64 (v8 : Int), .int .i64 y.proto, .int .i64 y.src.k, .int .i64 y.src.a, .int .i64 y.src.b, .int .i64 y.src.c, .int .i64 y.src.d, .int .i64 y.dst.k, .int .i64 y.dst.a, .int .i64 y.dst.b, .int .i64 y.dst.c, .int .i64 y.dst.d, .slice A n1 c1, .slice D m1 d1] 52 (0, 0))) := Lib.hid (K.set (p3.out) 5 (.int .i64 (v8 : Int)))
  have z3 := Lib.hid (K.setFrom_other [.int .i64 (v8 : Int)] 5 y3.out (show w.heap.size + 1 ≠ w.heap.size by omega))
  have G3 := Lib.hid (grown_other F3.out GS3.out (fun u hu => by cases hu; exact Nat.le_refl _))
  have h3 := Lib.hid (S3.out.away GS3.out (fun q hq => by cases hq; exact hgl))
  refine Calls.mono (numberP _ g (some a) n c bs 9 1 v9 E.out.2.2.2.1 h3.out (by omega) (by omega) (by omega)) ?_
  rintro e w4 ⟨rfl, r4, g4⟩
  have p4 := Lib.hid (K.kept g4 q3.out (fun k hk => by cases hk; omega))
  have y4 := Lib.hid (K.kept g4 z3.out (fun k hk => by cases hk; omega))
  have F4 := Lib.hid (grownBy_trans G3.out g4)
  have S4 := Lib.hid r4
  clear r4 g4
  have u6 := K.cell p4.out 6 _ rfl
  have x6 := frozen_of_row _ _ 6 _ _ p4.out
  go_wp2_with fail
  clear u6 x6
  have GS4 := Lib.hid (K.setFrom_self [.int .i64 (v9 : Int)] w4 w.heap.size 6)
  have q4 : Hid ((K.setFrom w4 w.heap.size 6 [.int .i64 (v9 : Int)]).heap[w.heap.size]? = some (.cells #[.int .i64 y.dscp, .int .i64 y.ecn, .int .i64 (v4 : Int), .int .i64 ((v6 : Int) / 8192), .int .i64 ((v6 : Int) % 8192), .int .i64 (v8 : Int), .int .i64 (v9 : Int), .int .i64 y.src.k, .int .i64 y.src.a, .int .i64 y.src.b, .int .i64 y.src.c, .int .i64 y.src.d, .int .i64 y.dst.k, .int .i64 y.dst.a, .int .i64 y.dst.b, .int .i64 y.dst.c, .int .i64 y.dst.d, .slice A n1 c1, .slice D m1 d1] 52 (0, 0))) := Lib.hid (K.set (p4.out) 6 (.int .i64 (v9 : Int)))
  have z4 := Lib.hid (K.setFrom_other [.int .i64 (v9 : Int)] 6 y4.out (show w.heap.size + 1 ≠ w.heap.size by omega))
  have G4 := Lib.hid (grown_other F4.out GS4.out (fun u hu => by cases hu; exact Nat.le_refl _))
  have h4 := Lib.hid (S4.out.away GS4.out (fun q hq => by cases hq; exact hgl))
  refine Calls.mono (numberP _ g (some a) n c bs 10 2 v10 E.out.2.2.2.2.1 h4.out (by omega) (by omega) (by omega)) ?_
  rintro e w5 ⟨rfl, r5, g5⟩
  have p5 := Lib.hid (K.kept g5 q4.out (fun k hk => by cases hk; omega))
  have y5 := Lib.hid (K.kept g5 z4.out (fun k hk => by cases hk; omega))
  have F5 := Lib.hid (grownBy_trans G4.out g5)
  have S5 := Lib.hid r5
  clear r5 g5
  have q5 := p5
  have z5 := y5
  have G5 := F5
  have h5 := S5
  go_wp2_with fail
  refine Calls.mono (addrP _ g a n c bs 12 v12 E.out.2.2.2.2.2.1 h5.out (by omega)) ?_
  rintro e w6 ⟨rfl, r6, g6⟩
  have p6 := Lib.hid (K.kept g6 q5.out (fun k hk => by cases hk; omega))
  have y6 := Lib.hid (K.kept g6 z5.out (fun k hk => by cases hk; omega))
  have F6 := Lib.hid (grownBy_trans G5.out g6)
  have S6 := Lib.hid r6
  clear r6 g6
  have u7 := K.cell p6.out 7 _ rfl
  have x7 := frozen_of_row _ _ 7 _ _ p6.out
  have u8 := K.cell p6.out 8 _ rfl
  have x8 := frozen_of_row _ _ 8 _ _ p6.out
  have u9 := K.cell p6.out 9 _ rfl
  have x9 := frozen_of_row _ _ 9 _ _ p6.out
  have u10 := K.cell p6.out 10 _ rfl
  have x10 := frozen_of_row _ _ 10 _ _ p6.out
  have u11 := K.cell p6.out 11 _ rfl
  have x11 := frozen_of_row _ _ 11 _ _ p6.out
  go_wp2_with fail
  clear u7 x7 u8 x8 u9 x9 u10 x10 u11 x11
  have GS6 := Lib.hid (K.setFrom_self [.int .i64 4, .int .i64 0, .int .i64 0, .int .i64 0, .int .i64 (v12 : Int)] w6 w.heap.size 7)
  have q6 : Hid ((K.setFrom w6 w.heap.size 7 [.int .i64 4, .int .i64 0, .int .i64 0, .int .i64 0, .int .i64 (v12 : Int)]).heap[w.heap.size]? = some (.cells #[.int .i64 y.dscp, .int .i64 y.ecn, .int .i64 (v4 : Int), .int .i64 ((v6 : Int) / 8192), .int .i64 ((v6 : Int) % 8192), .int .i64 (v8 : Int), .int .i64 (v9 : Int), .int .i64 4, .int .i64 0, .int .i64 0, .int .i64 0, .int .i64 (v12 : Int), .int .i64 y.dst.k, .int .i64 y.dst.a, .int .i64 y.dst.b, .int .i64 y.dst.c, .int .i64 y.dst.d, .slice A n1 c1, .slice D m1 d1] 52 (0, 0))) := Lib.hid (K.set (K.set (K.set (K.set (K.set (p6.out) 7 (.int .i64 4)) 8 (.int .i64 0)) 9 (.int .i64 0)) 10 (.int .i64 0)) 11 (.int .i64 (v12 : Int)))
  have z6 := Lib.hid (K.setFrom_other [.int .i64 4, .int .i64 0, .int .i64 0, .int .i64 0, .int .i64 (v12 : Int)] 7 y6.out (show w.heap.size + 1 ≠ w.heap.size by omega))
  have G6 := Lib.hid (grown_other F6.out GS6.out (fun u hu => by cases hu; exact Nat.le_refl _))
  have h6 := Lib.hid (S6.out.away GS6.out (fun q hq => by cases hq; exact hgl))
  refine Calls.mono (addrP _ g a n c bs 16 v16 E.out.2.2.2.2.2.2 h6.out (by omega)) ?_
  rintro e w7 ⟨rfl, r7, g7⟩
  have p7 := Lib.hid (K.kept g7 q6.out (fun k hk => by cases hk; omega))
  have y7 := Lib.hid (K.kept g7 z6.out (fun k hk => by cases hk; omega))
  have F7 := Lib.hid (grownBy_trans G6.out g7)
  have S7 := Lib.hid r7
  clear r7 g7
  have u12 := K.cell p7.out 12 _ rfl
  have x12 := frozen_of_row _ _ 12 _ _ p7.out
  have u13 := K.cell p7.out 13 _ rfl
  have x13 := frozen_of_row _ _ 13 _ _ p7.out
  have u14 := K.cell p7.out 14 _ rfl
  have x14 := frozen_of_row _ _ 14 _ _ p7.out
  have u15 := K.cell p7.out 15 _ rfl
  have x15 := frozen_of_row _ _ 15 _ _ p7.out
  have u16 := K.cell p7.out 16 _ rfl
  have x16 := frozen_of_row _ _ 16 _ _ p7.out
  have GS7 := Lib.hid (K.setFrom_self [.int .i64 4, .int .i64 0, .int .i64 0, .int .i64 0, .int .i64 (v16 : Int)] w7 w.heap.size 12)
  have q7 : Hid ((((((w7.setCell ⟨w.heap.size, 12, none⟩ (.int .i64 4)).setCell ⟨w.heap.size, 13, none⟩ (.int .i64 0)).setCell ⟨w.heap.size, 14, none⟩ (.int .i64 0)).setCell ⟨w.heap.size, 15, none⟩ (.int .i64 0)).setCell ⟨w.heap.size, 16, none⟩ (.int .i64 (v16 : Int))).heap[w.heap.size]? = some (.cells #[.int .i64 y.dscp, .int .i64 y.ecn, .int .i64 (v4 : Int), .int .i64 ((v6 : Int) / 8192), .int .i64 ((v6 : Int) % 8192), .int .i64 (v8 : Int), .int .i64 (v9 : Int), .int .i64 4, .int .i64 0, .int .i64 0, .int .i64 0, .int .i64 (v12 : Int), .int .i64 4, .int .i64 0, .int .i64 0, .int .i64 0, .int .i64 (v16 : Int), .slice A n1 c1, .slice D m1 d1] 52 (0, 0))) := Lib.hid (K.set (K.set (K.set (K.set (K.set (p7.out) 12 (.int .i64 4)) 13 (.int .i64 0)) 14 (.int .i64 0)) 15 (.int .i64 0)) 16 (.int .i64 (v16 : Int)))
  have z7 : Hid ((((((w7.setCell ⟨w.heap.size, 12, none⟩ (.int .i64 4)).setCell ⟨w.heap.size, 13, none⟩ (.int .i64 0)).setCell ⟨w.heap.size, 14, none⟩ (.int .i64 0)).setCell ⟨w.heap.size, 15, none⟩ (.int .i64 0)).setCell ⟨w.heap.size, 16, none⟩ (.int .i64 (v16 : Int))).heap[w.heap.size + 1]? = some (.cells #[.int .i64 0, .int .i64 0, .int .i64 0, .int .i64 0, .int .i64 0, .int .i64 0, .int .i64 0, .int .i64 0, .int .i64 0, .int .i64 0, .int .i64 0, .int .i64 0, .int .i64 0, .int .i64 0, .int .i64 0, .int .i64 0, .int .i64 0, .slice none 0 0, .slice none 0 0] 52 (0, 0))) := Lib.hid (K.setFrom_other [.int .i64 4, .int .i64 0, .int .i64 0, .int .i64 0, .int .i64 (v16 : Int)] 12 y7.out (show w.heap.size + 1 ≠ w.heap.size by omega))
  have G7 := Lib.hid (grown_other F7.out GS7.out (fun u hu => by cases hu; exact Nat.le_refl _))
  have h7 := Lib.hid (S7.out.away GS7.out (fun q hq => by cases hq; exact hgl))
  have h8 : Hid (Rp (((((w7.setCell ⟨w.heap.size, 12, none⟩ (.int .i64 4)).setCell ⟨w.heap.size, 13, none⟩ (.int .i64 0)).setCell ⟨w.heap.size, 14, none⟩ (.int .i64 0)).setCell ⟨w.heap.size, 15, none⟩ (.int .i64 0)).setCell ⟨w.heap.size, 16, none⟩ (.int .i64 (v16 : Int))) g (some a) n c bs 20) := h7
  have G8 : Hid (w.grownBy (((((w7.setCell ⟨w.heap.size, 12, none⟩ (.int .i64 4)).setCell ⟨w.heap.size, 13, none⟩ (.int .i64 0)).setCell ⟨w.heap.size, 14, none⟩ (.int .i64 0)).setCell ⟨w.heap.size, 15, none⟩ (.int .i64 0)).setCell ⟨w.heap.size, 16, none⟩ (.int .i64 (v16 : Int))) (some g)) := G7
  go_upto_region 8 with fail
  clear h7 G7 GS7 S7 F7 y7 p7 u12 u13 u14 u15 u16 x12 x13 x14 x15 x16
  generalize (((((w7.setCell ⟨w.heap.size, 12, none⟩ (.int .i64 4)).setCell ⟨w.heap.size, 13, none⟩ (.int .i64 0)).setCell ⟨w.heap.size, 14, none⟩ (.int .i64 0)).setCell ⟨w.heap.size, 15, none⟩ (.int .i64 0)).setCell ⟨w.heap.size, 16, none⟩ (.int .i64 (v16 : Int))) = W at q7 z7 h8 G8 ⊢
  go_wp2_with (first | (with_reducible refine loadF rfl _ rfl w.heap.size rfl q7.out ?_) | (with_reducible refine storeF rfl _ _ rfl (w.heap.size + 1) rfl rfl z7.out ?_))
  (try simp only [Exit.inBlock, Exit.then])
  refine bodyPost_ret (v := .tuple #[.agg #[.int .i64 y.dscp, .int .i64 y.ecn, .int .i64 (v4 : Int), .int .i64 ((v6 : Int) / 8192), .int .i64 ((v6 : Int) % 8192), .int .i64 (v8 : Int), .int .i64 (v9 : Int), .int .i64 4, .int .i64 0, .int .i64 0, .int .i64 0, .int .i64 (v12 : Int), .int .i64 4, .int .i64 0, .int .i64 0, .int .i64 0, .int .i64 (v16 : Int), .slice A n1 c1, .slice D m1 d1], .int .i64 (v10 : Int)]) ?_ rfl ⟨rfl, ?_, ?_⟩
  · exact K.resCellTmp Try.results103 _ _ _ (w.heap.size + 1) _ rfl (run_loadVar_row _ _ 52 52 _ (0, 0) _ (setRow_heap _ _ _ _ _ _ z7.out) Try.underlying52 rfl info_four)
  · exact h8.out.away (K.setRow_grown _ _ _) (fun q hq => by cases hq; omega)
  · exact grown_other G8.out (K.setRow_grown _ _ _) (fun u hu => by cases hu; omega)
end Go.Proofs.Ytegpaocoepcemaa

namespace Go.Proofs.Ytegpaocoepcemaa
set_option maxRecDepth 100000
open Go.RowKit

/-- A packet is not read. -/
def FoNo (k : Int) (g : Nat) (w : World) (e : Ending) (w' : World) : Prop := e = .returned (.tuple #[.agg #[.int .i64 0, .int .i64 0, .int .i64 0, .int .i64 0, .int .i64 0, .int .i64 0, .int .i64 0, .int .i64 0, .int .i64 0, .int .i64 0, .int .i64 0, .int .i64 0, .int .i64 0, .int .i64 0, .int .i64 0, .int .i64 0, .int .i64 0, .slice none 0 0, .slice none 0 0], .int .i64 k]) ∧ w.grownBy w' (some g)
/-- A packet is read. -/
def FoYes (x : Fh) (os ds : List UInt8) (p q t g : Nat) (a : Addr) (n c : Nat) (bs : List UInt8) (w : World) (e : Ending) (w' : World) : Prop :=
  ∃ A c1 D d1, e = .returned (.tuple #[.agg #[.int .i64 x.dscp, .int .i64 x.ecn, .int .i64 x.id, .int .i64 x.flags, .int .i64 x.frag, .int .i64 x.ttl, .int .i64 x.proto, .int .i64 x.src.k, .int .i64 x.src.a, .int .i64 x.src.b, .int .i64 x.src.c, .int .i64 x.src.d, .int .i64 x.dst.k, .int .i64 x.dst.a, .int .i64 x.dst.b, .int .i64 x.dst.c, .int .i64 x.dst.d, .slice A p c1, .slice D q d1], .int .i64 0]) ∧ w'.ownsRow w.heap.size 5 1 (.slice A p c1) p (cellsOf os) ∧ w'.ownsRow w.heap.size 5 1 (.slice D q d1) q (cellsOf ds) ∧
    (∀ k, (Value.slice A p c1).ownBlock = some k → (Value.slice D q d1).ownBlock ≠ some k) ∧ Rp w' g (some a) n c bs t ∧ w.grownBy w' (some g)
theorem afterC2 (w : World) (g : Nat) (a : Addr) (n c : Nat) (bs : List UInt8) (y0 y1 : Int) (v4 v6 v8 v9 v10 v12 v16 : Nat) (h : Rp w g (some a) n c bs 4) (hn : 20 ≤ n)
    (e4 : num bs 4 2 = v4) (e6 : num bs 6 2 = v6) (e8 : num bs 8 1 = v8) (e9 : num bs 9 1 = v9) (e10 : num bs 10 2 = v10) (e12 : num bs 12 4 = v12) (e16 : num bs 16 4 = v16) :
    Calls Try.prog 103 #[.pointer (some ⟨g, 0, none⟩), .agg #[.int .i64 y0, .int .i64 y1, .int .i64 0, .int .i64 0, .int .i64 0, .int .i64 0, .int .i64 0, .int .i64 0, .int .i64 0, .int .i64 0, .int .i64 0, .int .i64 0, .int .i64 0, .int .i64 0, .int .i64 0, .int .i64 0, .int .i64 0, .slice none 0 0, .slice none 0 0]] w fun e w' => e = .returned (.tuple #[.agg #[.int .i64 y0, .int .i64 y1, .int .i64 (v4 : Int), .int .i64 ((v6 : Int) / 8192), .int .i64 ((v6 : Int) % 8192), .int .i64 (v8 : Int), .int .i64 (v9 : Int), .int .i64 4, .int .i64 0, .int .i64 0, .int .i64 0, .int .i64 (v12 : Int), .int .i64 4, .int .i64 0, .int .i64 0, .int .i64 0, .int .i64 (v16 : Int), .slice none 0 0, .slice none 0 0], .int .i64 (v10 : Int)]) ∧ Rp w' g (some a) n c bs 20 ∧ w.grownBy w' (some g) :=
  afterC w g a n c bs ⟨y0, y1, 0, 0, 0, 0, 0, Ad.zero, Ad.zero⟩ none none 0 0 0 0 v4 v6 v8 v9 v10 v12 v16 h hn e4 e6 e8 e9 e10 e12 e16

set_option maxRecDepth 100000 in
set_option maxHeartbeats 4000000 in
theorem fourOf_3 (w : World) (g : Nat) (a : Addr) (n c : Nat) (bs : List UInt8) (b0 : Nat) (h : Rp w g (some a) n c bs 0) (hn : 20 ≤ n) (e0 : num bs 0 1 = b0) (hv : ¬ (b0 : Int) / 16 = 4) :
    Calls Try.prog 77 #[.pointer (some ⟨g, 0, none⟩)] w (FoNo 3 g w) := by
  have hb0 : b0 < 256 := by rw [← e0]; exact num_lt1 bs 0
  have hgl := h.lt
  have hsm := h.small
  have hln := Lib.hid h.len
  have h0 := Lib.hid (h.below (Joins.below_alloc1 w (.cells #[.int .i64 0, .int .i64 0, .int .i64 0, .int .i64 0, .int .i64 0, .int .i64 0, .int .i64 0, .int .i64 0, .int .i64 0, .int .i64 0, .int .i64 0, .int .i64 0, .int .i64 0, .int .i64 0, .int .i64 0, .int .i64 0, .int .i64 0, .slice none 0 0, .slice none 0 0] 52)))
  have z0 := Lib.hid (K.new w (.cells #[.int .i64 0, .int .i64 0, .int .i64 0, .int .i64 0, .int .i64 0, .int .i64 0, .int .i64 0, .int .i64 0, .int .i64 0, .int .i64 0, .int .i64 0, .int .i64 0, .int .i64 0, .int .i64 0, .int .i64 0, .int .i64 0, .int .i64 0, .slice none 0 0, .slice none 0 0] 52))
  have G0 := Lib.hid (show w.grownBy (w.alloc (.cells #[.int .i64 0, .int .i64 0, .int .i64 0, .int .i64 0, .int .i64 0, .int .i64 0, .int .i64 0, .int .i64 0, .int .i64 0, .int .i64 0, .int .i64 0, .int .i64 0, .int .i64 0, .int .i64 0, .int .i64 0, .int .i64 0, .int .i64 0, .slice none 0 0, .slice none 0 0] 52)) (some g) from only_new (K.refl w _) _)
  have E0 := Lib.hid e0
  clear h e0
  go_enter Try.func77, Try.ntmps77
  go_wp2_with fail
  refine Calls.mono (leftP _ g (some a) n c bs 0 n h0.out (by omega)) ?_
  rintro e w1 ⟨rfl, b1'⟩
  have h1 := Lib.hid (h0.out.below b1')
  have z1 := Lib.hid (K.below b1' z0.out)
  have G1 := Lib.hid (grownBy_trans G0.out (below_grown b1' _))
  clear b1'
  go_wp2_with fail
  refine Calls.mono (splitP_4 _ g (some a) n c bs 0 1 b0 E0.out (by omega) h1.out (by omega) (by omega) (by omega)) ?_
  rintro e w2 ⟨rfl, r2, g2⟩
  have h2 := Lib.hid r2
  have z2 := Lib.hid (K.kept g2 z1.out (fun k hk => by cases hk; omega))
  have G2 := Lib.hid (grownBy_trans G1.out g2)
  clear r2 g2
  go_wp2_with (with_reducible refine storeF rfl _ _ rfl w.heap.size rfl rfl z2.out ?_)
  (try simp only [Exit.inBlock, Exit.then])
  refine bodyPost_ret (v := .tuple #[.agg #[.int .i64 0, .int .i64 0, .int .i64 0, .int .i64 0, .int .i64 0, .int .i64 0, .int .i64 0, .int .i64 0, .int .i64 0, .int .i64 0, .int .i64 0, .int .i64 0, .int .i64 0, .int .i64 0, .int .i64 0, .int .i64 0, .int .i64 0, .slice none 0 0, .slice none 0 0], .int .i64 3]) ?_ rfl ⟨rfl, ?_⟩
  · exact K.resCellTmp Try.results77 _ _ _ w.heap.size _ rfl (run_loadVar_row _ _ 52 52 _ (0, 0) _ (setRow_heap _ _ _ _ _ _ z2.out) Try.underlying52 rfl info_four)
  · exact grown_other G2.out (K.setRow_grown _ _ _) (fun u hu => by cases hu; exact Nat.le_refl _)

set_option maxRecDepth 100000 in
set_option maxHeartbeats 4000000 in
theorem fourOf_4 (w : World) (g : Nat) (a : Addr) (n c : Nat) (bs : List UInt8) (b0 : Nat) (h : Rp w g (some a) n c bs 0) (hn : 20 ≤ n) (e0 : num bs 0 1 = b0) (hv : (b0 : Int) / 16 = 4) (hd : Nat) (ed : 4 * (b0 % 16) = hd) (hh : hd < 20 ∨ n < hd) :
    Calls Try.prog 77 #[.pointer (some ⟨g, 0, none⟩)] w (FoNo 4 g w) := by
  have hb0 : b0 < 256 := by rw [← e0]; exact num_lt1 bs 0
  have hgl := h.lt
  have hsm := h.small
  have hln := Lib.hid h.len
  have hwd : IntKind.i64.wrap (4 * ((b0 : Int) % 16)) = (hd : Int) := by rw [IntKind.wrap_i64]; omega
  have hwd2 : 4 * ((b0 : Int) % 16) = (hd : Int) := by omega
  have h0 := Lib.hid (h.below (Joins.below_alloc1 w (.cells #[.int .i64 0, .int .i64 0, .int .i64 0, .int .i64 0, .int .i64 0, .int .i64 0, .int .i64 0, .int .i64 0, .int .i64 0, .int .i64 0, .int .i64 0, .int .i64 0, .int .i64 0, .int .i64 0, .int .i64 0, .int .i64 0, .int .i64 0, .slice none 0 0, .slice none 0 0] 52)))
  have z0 := Lib.hid (K.new w (.cells #[.int .i64 0, .int .i64 0, .int .i64 0, .int .i64 0, .int .i64 0, .int .i64 0, .int .i64 0, .int .i64 0, .int .i64 0, .int .i64 0, .int .i64 0, .int .i64 0, .int .i64 0, .int .i64 0, .int .i64 0, .int .i64 0, .int .i64 0, .slice none 0 0, .slice none 0 0] 52))
  have G0 := Lib.hid (show w.grownBy (w.alloc (.cells #[.int .i64 0, .int .i64 0, .int .i64 0, .int .i64 0, .int .i64 0, .int .i64 0, .int .i64 0, .int .i64 0, .int .i64 0, .int .i64 0, .int .i64 0, .int .i64 0, .int .i64 0, .int .i64 0, .int .i64 0, .int .i64 0, .int .i64 0, .slice none 0 0, .slice none 0 0] 52)) (some g) from only_new (K.refl w _) _)
  have E0 := Lib.hid e0
  clear h e0
  have HD := Lib.hid ed
  clear ed
  go_enter Try.func77, Try.ntmps77
  go_wp2_with fail
  refine Calls.mono (leftP _ g (some a) n c bs 0 n h0.out (by omega)) ?_
  rintro e w1 ⟨rfl, b1'⟩
  have h1 := Lib.hid (h0.out.below b1')
  have z1 := Lib.hid (K.below b1' z0.out)
  have G1 := Lib.hid (grownBy_trans G0.out (below_grown b1' _))
  clear b1'
  go_wp2_with fail
  refine Calls.mono (splitP_4 _ g (some a) n c bs 0 1 b0 E0.out (by omega) h1.out (by omega) (by omega) (by omega)) ?_
  rintro e w2 ⟨rfl, r2, g2⟩
  have h2 := Lib.hid r2
  have z2 := Lib.hid (K.kept g2 z1.out (fun k hk => by cases hk; omega))
  have G2 := Lib.hid (grownBy_trans G1.out g2)
  clear r2 g2
  go_wp2_with fail
  refine Calls.mono (within_no _ _ _ _ (by omega)) ?_
  rintro e w3 ⟨rfl, rfl⟩
  go_wp2_with (with_reducible refine storeF rfl _ _ rfl w.heap.size rfl rfl z2.out ?_)
  (try simp only [Exit.inBlock, Exit.then])
  refine bodyPost_ret (v := .tuple #[.agg #[.int .i64 0, .int .i64 0, .int .i64 0, .int .i64 0, .int .i64 0, .int .i64 0, .int .i64 0, .int .i64 0, .int .i64 0, .int .i64 0, .int .i64 0, .int .i64 0, .int .i64 0, .int .i64 0, .int .i64 0, .int .i64 0, .int .i64 0, .slice none 0 0, .slice none 0 0], .int .i64 4]) ?_ rfl ⟨rfl, ?_⟩
  · exact K.resCellTmp Try.results77 _ _ _ w.heap.size _ rfl (run_loadVar_row _ _ 52 52 _ (0, 0) _ (setRow_heap _ _ _ _ _ _ z2.out) Try.underlying52 rfl info_four)
  · exact grown_other G2.out (K.setRow_grown _ _ _) (fun u hu => by cases hu; exact Nat.le_refl _)

set_option maxRecDepth 100000 in
set_option maxHeartbeats 4000000 in
theorem fourOf_5 (w : World) (g : Nat) (a : Addr) (n c : Nat) (bs : List UInt8) (b0 : Nat) (h : Rp w g (some a) n c bs 0) (hn : 20 ≤ n) (e0 : num bs 0 1 = b0) (hv : (b0 : Int) / 16 = 4) (hd : Nat) (ed : 4 * (b0 % 16) = hd) (hh : 20 ≤ hd ∧ hd ≤ n) (b1 t : Nat) (e1 : num bs 1 1 = b1) (et : num bs 2 2 = t) (ht : t < hd ∨ 1500 < t ∨ n < t) :
    Calls Try.prog 77 #[.pointer (some ⟨g, 0, none⟩)] w (FoNo 5 g w) := by
  have hb0 : b0 < 256 := by rw [← e0]; exact num_lt1 bs 0
  have hgl := h.lt
  have hsm := h.small
  have hln := Lib.hid h.len
  have hwd : IntKind.i64.wrap (4 * ((b0 : Int) % 16)) = (hd : Int) := by rw [IntKind.wrap_i64]; omega
  have hwd2 : 4 * ((b0 : Int) % 16) = (hd : Int) := by omega
  have h0 := Lib.hid (h.below (Joins.below_alloc1 w (.cells #[.int .i64 0, .int .i64 0, .int .i64 0, .int .i64 0, .int .i64 0, .int .i64 0, .int .i64 0, .int .i64 0, .int .i64 0, .int .i64 0, .int .i64 0, .int .i64 0, .int .i64 0, .int .i64 0, .int .i64 0, .int .i64 0, .int .i64 0, .slice none 0 0, .slice none 0 0] 52)))
  have z0 := Lib.hid (K.new w (.cells #[.int .i64 0, .int .i64 0, .int .i64 0, .int .i64 0, .int .i64 0, .int .i64 0, .int .i64 0, .int .i64 0, .int .i64 0, .int .i64 0, .int .i64 0, .int .i64 0, .int .i64 0, .int .i64 0, .int .i64 0, .int .i64 0, .int .i64 0, .slice none 0 0, .slice none 0 0] 52))
  have G0 := Lib.hid (show w.grownBy (w.alloc (.cells #[.int .i64 0, .int .i64 0, .int .i64 0, .int .i64 0, .int .i64 0, .int .i64 0, .int .i64 0, .int .i64 0, .int .i64 0, .int .i64 0, .int .i64 0, .int .i64 0, .int .i64 0, .int .i64 0, .int .i64 0, .int .i64 0, .int .i64 0, .slice none 0 0, .slice none 0 0] 52)) (some g) from only_new (K.refl w _) _)
  have E0 := Lib.hid e0
  clear h e0
  have HD := Lib.hid ed
  clear ed
  go_enter Try.func77, Try.ntmps77
  go_wp2_with fail
  refine Calls.mono (leftP _ g (some a) n c bs 0 n h0.out (by omega)) ?_
  rintro e w1 ⟨rfl, b1'⟩
  have h1 := Lib.hid (h0.out.below b1')
  have z1 := Lib.hid (K.below b1' z0.out)
  have G1 := Lib.hid (grownBy_trans G0.out (below_grown b1' _))
  clear b1'
  go_wp2_with fail
  refine Calls.mono (splitP_4 _ g (some a) n c bs 0 1 b0 E0.out (by omega) h1.out (by omega) (by omega) (by omega)) ?_
  rintro e w2 ⟨rfl, r2, g2⟩
  have h2 := Lib.hid r2
  have z2 := Lib.hid (K.kept g2 z1.out (fun k hk => by cases hk; omega))
  have G2 := Lib.hid (grownBy_trans G1.out g2)
  clear r2 g2
  go_wp2_with fail
  refine Calls.mono (within_yes _ _ _ _ (by omega) (by omega)) ?_
  rintro e w3 ⟨rfl, rfl⟩
  have hb1 : b1 < 256 := by rw [← e1]; exact num_lt1 bs 1
  have E1 := Lib.hid (And.intro e1 et)
  clear e1 et
  have q2 := Lib.hid (K.new w2 (.cells #[.int .i64 0, .int .i64 0, .int .i64 0, .int .i64 0, .int .i64 0, .int .i64 0, .int .i64 0, .int .i64 0, .int .i64 0, .int .i64 0, .int .i64 0, .int .i64 0, .int .i64 0, .int .i64 0, .int .i64 0, .int .i64 0, .int .i64 0, .slice none 0 0, .slice none 0 0] 52))
  have z3 := Lib.hid (K.old z2.out (.cells #[.int .i64 0, .int .i64 0, .int .i64 0, .int .i64 0, .int .i64 0, .int .i64 0, .int .i64 0, .int .i64 0, .int .i64 0, .int .i64 0, .int .i64 0, .int .i64 0, .int .i64 0, .int .i64 0, .int .i64 0, .int .i64 0, .int .i64 0, .slice none 0 0, .slice none 0 0] 52))
  have h3 := Lib.hid (h2.out.below (Joins.below_alloc1 w2 (.cells #[.int .i64 0, .int .i64 0, .int .i64 0, .int .i64 0, .int .i64 0, .int .i64 0, .int .i64 0, .int .i64 0, .int .i64 0, .int .i64 0, .int .i64 0, .int .i64 0, .int .i64 0, .int .i64 0, .int .i64 0, .int .i64 0, .int .i64 0, .slice none 0 0, .slice none 0 0] 52)))
  have G3 := Lib.hid (only_new G2.out (.cells #[.int .i64 0, .int .i64 0, .int .i64 0, .int .i64 0, .int .i64 0, .int .i64 0, .int .i64 0, .int .i64 0, .int .i64 0, .int .i64 0, .int .i64 0, .int .i64 0, .int .i64 0, .int .i64 0, .int .i64 0, .int .i64 0, .int .i64 0, .slice none 0 0, .slice none 0 0] 52))
  have lf := K.lt z2.out
  have lg := h2.out.lt
  go_wp2_with fail
  refine Calls.mono (splitP_2 _ g (some a) n c bs 1 1 b1 E1.out.1 (by omega) h3.out (by omega) (by omega) (by omega)) ?_
  rintro e w4 ⟨rfl, r4, g4⟩
  have q4 := Lib.hid (K.kept g4 q2.out (fun k hk => by cases hk; omega))
  have z4 := Lib.hid (K.kept g4 z3.out (fun k hk => by cases hk; omega))
  have G4 := Lib.hid (grownBy_trans G3.out g4)
  have S4 := Lib.hid r4
  clear r4 g4
  have u0 := K.cell q4.out 0 _ rfl
  have u1 := K.cell q4.out 1 _ rfl
  have x0 := frozen_of_row _ _ 0 _ _ q4.out
  have x1 := frozen_of_row _ _ 1 _ _ q4.out
  go_wp2_with fail
  clear u0 u1 x0 x1
  have GS := Lib.hid (K.setFrom_self [.int .i64 ((b1 : Int) / 4), .int .i64 ((b1 : Int) % 4)] w4 w2.heap.size 0)
  have q5 : Hid ((K.setFrom w4 w2.heap.size 0 [.int .i64 ((b1 : Int) / 4), .int .i64 ((b1 : Int) % 4)]).heap[w2.heap.size]? = some (.cells #[.int .i64 ((b1 : Int) / 4), .int .i64 ((b1 : Int) % 4), .int .i64 0, .int .i64 0, .int .i64 0, .int .i64 0, .int .i64 0, .int .i64 0, .int .i64 0, .int .i64 0, .int .i64 0, .int .i64 0, .int .i64 0, .int .i64 0, .int .i64 0, .int .i64 0, .int .i64 0, .slice none 0 0, .slice none 0 0] 52 (0, 0))) := Lib.hid (K.set (K.set q4.out 0 _) 1 _)
  have z5 := Lib.hid (K.setFrom_other [.int .i64 ((b1 : Int) / 4), .int .i64 ((b1 : Int) % 4)] 0 z4.out (show w.heap.size ≠ w2.heap.size by omega))
  have G5 := Lib.hid (grown_other G4.out GS.out (fun u hu => by cases hu; exact Nat.le_of_lt lf))
  have h5 := Lib.hid (S4.out.away GS.out (fun q hq => by cases hq; exact lg))
  refine Calls.mono (numberP _ g (some a) n c bs 2 2 t E1.out.2 h5.out (by omega) (by omega) (by omega)) ?_
  rintro e w6 ⟨rfl, r6, g6⟩
  have q6 := Lib.hid (K.kept g6 q5.out (fun k hk => by cases hk; omega))
  have z6 := Lib.hid (K.kept g6 z5.out (fun k hk => by cases hk; omega))
  have G6 := Lib.hid (grownBy_trans G5.out g6)
  have h6 := Lib.hid r6
  clear r6 g6 q2 z3 h3 G3 q4 z4 G4 S4 GS q5 z5 G5 h5
  go_wp2_with fail
  all_goals
    refine Calls.mono (within_no _ _ _ _ (by omega)) ?_
    rintro e w7 ⟨rfl, rfl⟩
    go_wp2_with (with_reducible refine storeF rfl _ _ rfl w.heap.size rfl rfl z6.out ?_)
    (try simp only [Exit.inBlock, Exit.then])
    refine bodyPost_ret (v := .tuple #[.agg #[.int .i64 0, .int .i64 0, .int .i64 0, .int .i64 0, .int .i64 0, .int .i64 0, .int .i64 0, .int .i64 0, .int .i64 0, .int .i64 0, .int .i64 0, .int .i64 0, .int .i64 0, .int .i64 0, .int .i64 0, .int .i64 0, .int .i64 0, .slice none 0 0, .slice none 0 0], .int .i64 5]) ?_ rfl ⟨rfl, ?_⟩
    · exact K.resCellTmp Try.results77 _ _ _ w.heap.size _ rfl (run_loadVar_row _ _ 52 52 _ (0, 0) _ (setRow_heap _ _ _ _ _ _ z6.out) Try.underlying52 rfl info_four)
    · exact grown_other G6.out (K.setRow_grown _ _ _) (fun u hu => by cases hu; exact Nat.le_refl _)
end Go.Proofs.Ytegpaocoepcemaa

namespace Go.Proofs.Ytegpaocoepcemaa
set_option maxRecDepth 100000
open Go.RowKit

set_option maxRecDepth 100000 in
set_option maxHeartbeats 4000000 in
theorem fourOf_6 (w : World) (g : Nat) (a : Addr) (n c : Nat) (bs : List UInt8) (b0 : Nat) (h : Rp w g (some a) n c bs 0) (hn : 20 ≤ n) (e0 : num bs 0 1 = b0) (hv : (b0 : Int) / 16 = 4) (hd : Nat) (ed : 4 * (b0 % 16) = hd) (hh : 20 ≤ hd ∧ hd ≤ n) (b1 t : Nat) (e1 : num bs 1 1 = b1) (et : num bs 2 2 = t) (ht : hd ≤ t ∧ t ≤ 1500 ∧ t ≤ n) (v4 v6 v8 v9 v10 v12 v16 : Nat) (e4 : num bs 4 2 = v4) (e6 : num bs 6 2 = v6) (e8 : num bs 8 1 = v8) (e9 : num bs 9 1 = v9) (e10 : num bs 10 2 = v10) (e12 : num bs 12 4 = v12) (e16 : num bs 16 4 = v16) (p q : Nat) (ep : hd = 20 + p) (eq : t = hd + q) (os ds : List UInt8) (eos : (bs.drop 20).take p = os) (eds : (bs.drop hd).take q = ds) (hs : ¬ (v10 : Int) = (⟨(b1 : Int) / 4, (b1 : Int) % 4, v4, (v6 : Int) / 8192, (v6 : Int) % 8192, v8, v9, ⟨4, 0, 0, 0, v12⟩, ⟨4, 0, 0, 0, v16⟩⟩ : Fh).sum os q) :
    Calls Try.prog 77 #[.pointer (some ⟨g, 0, none⟩)] w (FoNo 6 g w) := by
  have hb0 : b0 < 256 := by rw [← e0]; exact num_lt1 bs 0
  have hgl := h.lt
  have hsm := h.small
  have hln := Lib.hid h.len
  have E4 := Lib.hid (And.intro e4 (And.intro e6 (And.intro e8 (And.intro e9 (And.intro e10 (And.intro e12 e16))))))
  have hb6 : v6 < 65536 := by rw [← e6]; exact num_lt2 bs 6
  have EP := Lib.hid (And.intro ep eq)
  have ES := Lib.hid (And.intro eos eds)
  have HS := Lib.hid hs
  clear e4 e6 e8 e9 e10 e12 e16 ep eq eos eds hs
  have hwd : IntKind.i64.wrap (4 * ((b0 : Int) % 16)) = (hd : Int) := by rw [IntKind.wrap_i64]; omega
  have hwd2 : 4 * ((b0 : Int) % 16) = (hd : Int) := by omega
  have h0 := Lib.hid (h.below (Joins.below_alloc1 w (.cells #[.int .i64 0, .int .i64 0, .int .i64 0, .int .i64 0, .int .i64 0, .int .i64 0, .int .i64 0, .int .i64 0, .int .i64 0, .int .i64 0, .int .i64 0, .int .i64 0, .int .i64 0, .int .i64 0, .int .i64 0, .int .i64 0, .int .i64 0, .slice none 0 0, .slice none 0 0] 52)))
  have z0 := Lib.hid (K.new w (.cells #[.int .i64 0, .int .i64 0, .int .i64 0, .int .i64 0, .int .i64 0, .int .i64 0, .int .i64 0, .int .i64 0, .int .i64 0, .int .i64 0, .int .i64 0, .int .i64 0, .int .i64 0, .int .i64 0, .int .i64 0, .int .i64 0, .int .i64 0, .slice none 0 0, .slice none 0 0] 52))
  have G0 := Lib.hid (show w.grownBy (w.alloc (.cells #[.int .i64 0, .int .i64 0, .int .i64 0, .int .i64 0, .int .i64 0, .int .i64 0, .int .i64 0, .int .i64 0, .int .i64 0, .int .i64 0, .int .i64 0, .int .i64 0, .int .i64 0, .int .i64 0, .int .i64 0, .int .i64 0, .int .i64 0, .slice none 0 0, .slice none 0 0] 52)) (some g) from only_new (K.refl w _) _)
  have E0 := Lib.hid e0
  clear h e0
  have HD := Lib.hid ed
  clear ed
  go_enter Try.func77, Try.ntmps77
  go_wp2_with fail
  refine Calls.mono (leftP _ g (some a) n c bs 0 n h0.out (by omega)) ?_
  rintro e w1 ⟨rfl, b1'⟩
  have h1 := Lib.hid (h0.out.below b1')
  have z1 := Lib.hid (K.below b1' z0.out)
  have G1 := Lib.hid (grownBy_trans G0.out (below_grown b1' _))
  clear b1'
  go_wp2_with fail
  refine Calls.mono (splitP_4 _ g (some a) n c bs 0 1 b0 E0.out (by omega) h1.out (by omega) (by omega) (by omega)) ?_
  rintro e w2 ⟨rfl, r2, g2⟩
  have h2 := Lib.hid r2
  have z2 := Lib.hid (K.kept g2 z1.out (fun k hk => by cases hk; omega))
  have G2 := Lib.hid (grownBy_trans G1.out g2)
  clear r2 g2
  go_wp2_with fail
  refine Calls.mono (within_yes _ _ _ _ (by omega) (by omega)) ?_
  rintro e w3 ⟨rfl, rfl⟩
  have hb1 : b1 < 256 := by rw [← e1]; exact num_lt1 bs 1
  have E1 := Lib.hid (And.intro e1 et)
  clear e1 et
  have q2 := Lib.hid (K.new w2 (.cells #[.int .i64 0, .int .i64 0, .int .i64 0, .int .i64 0, .int .i64 0, .int .i64 0, .int .i64 0, .int .i64 0, .int .i64 0, .int .i64 0, .int .i64 0, .int .i64 0, .int .i64 0, .int .i64 0, .int .i64 0, .int .i64 0, .int .i64 0, .slice none 0 0, .slice none 0 0] 52))
  have z3 := Lib.hid (K.old z2.out (.cells #[.int .i64 0, .int .i64 0, .int .i64 0, .int .i64 0, .int .i64 0, .int .i64 0, .int .i64 0, .int .i64 0, .int .i64 0, .int .i64 0, .int .i64 0, .int .i64 0, .int .i64 0, .int .i64 0, .int .i64 0, .int .i64 0, .int .i64 0, .slice none 0 0, .slice none 0 0] 52))
  have h3 := Lib.hid (h2.out.below (Joins.below_alloc1 w2 (.cells #[.int .i64 0, .int .i64 0, .int .i64 0, .int .i64 0, .int .i64 0, .int .i64 0, .int .i64 0, .int .i64 0, .int .i64 0, .int .i64 0, .int .i64 0, .int .i64 0, .int .i64 0, .int .i64 0, .int .i64 0, .int .i64 0, .int .i64 0, .slice none 0 0, .slice none 0 0] 52)))
  have G3 := Lib.hid (only_new G2.out (.cells #[.int .i64 0, .int .i64 0, .int .i64 0, .int .i64 0, .int .i64 0, .int .i64 0, .int .i64 0, .int .i64 0, .int .i64 0, .int .i64 0, .int .i64 0, .int .i64 0, .int .i64 0, .int .i64 0, .int .i64 0, .int .i64 0, .int .i64 0, .slice none 0 0, .slice none 0 0] 52))
  have lf := K.lt z2.out
  have lg := h2.out.lt
  go_wp2_with fail
  refine Calls.mono (splitP_2 _ g (some a) n c bs 1 1 b1 E1.out.1 (by omega) h3.out (by omega) (by omega) (by omega)) ?_
  rintro e w4 ⟨rfl, r4, g4⟩
  have q4 := Lib.hid (K.kept g4 q2.out (fun k hk => by cases hk; omega))
  have z4 := Lib.hid (K.kept g4 z3.out (fun k hk => by cases hk; omega))
  have G4 := Lib.hid (grownBy_trans G3.out g4)
  have S4 := Lib.hid r4
  clear r4 g4
  have u0 := K.cell q4.out 0 _ rfl
  have u1 := K.cell q4.out 1 _ rfl
  have x0 := frozen_of_row _ _ 0 _ _ q4.out
  have x1 := frozen_of_row _ _ 1 _ _ q4.out
  go_wp2_with fail
  clear u0 u1 x0 x1
  have GS := Lib.hid (K.setFrom_self [.int .i64 ((b1 : Int) / 4), .int .i64 ((b1 : Int) % 4)] w4 w2.heap.size 0)
  have q5 : Hid ((K.setFrom w4 w2.heap.size 0 [.int .i64 ((b1 : Int) / 4), .int .i64 ((b1 : Int) % 4)]).heap[w2.heap.size]? = some (.cells #[.int .i64 ((b1 : Int) / 4), .int .i64 ((b1 : Int) % 4), .int .i64 0, .int .i64 0, .int .i64 0, .int .i64 0, .int .i64 0, .int .i64 0, .int .i64 0, .int .i64 0, .int .i64 0, .int .i64 0, .int .i64 0, .int .i64 0, .int .i64 0, .int .i64 0, .int .i64 0, .slice none 0 0, .slice none 0 0] 52 (0, 0))) := Lib.hid (K.set (K.set q4.out 0 _) 1 _)
  have z5 := Lib.hid (K.setFrom_other [.int .i64 ((b1 : Int) / 4), .int .i64 ((b1 : Int) % 4)] 0 z4.out (show w.heap.size ≠ w2.heap.size by omega))
  have G5 := Lib.hid (grown_other G4.out GS.out (fun u hu => by cases hu; exact Nat.le_of_lt lf))
  have h5 := Lib.hid (S4.out.away GS.out (fun q hq => by cases hq; exact lg))
  refine Calls.mono (numberP _ g (some a) n c bs 2 2 t E1.out.2 h5.out (by omega) (by omega) (by omega)) ?_
  rintro e w6 ⟨rfl, r6, g6⟩
  have q6 := Lib.hid (K.kept g6 q5.out (fun k hk => by cases hk; omega))
  have z6 := Lib.hid (K.kept g6 z5.out (fun k hk => by cases hk; omega))
  have G6 := Lib.hid (grownBy_trans G5.out g6)
  have h6 := Lib.hid r6
  clear r6 g6 q2 z3 h3 G3 q4 z4 G4 S4 GS q5 z5 G5 h5
  go_wp2_with fail
  all_goals
    refine Calls.mono (within_yes _ _ _ _ (by omega) (by omega)) ?_
    rintro e w7 ⟨rfl, rfl⟩
    have hp : (hd : Int) - 20 = (p : Int) := by have := EP.out; omega
    have hq : (t : Int) - (hd : Int) = (q : Int) := by have := EP.out; omega
    go_wp2_with (with_reducible refine loadF rfl _ rfl w2.heap.size rfl q6.out ?_)
    refine Calls.mono (afterC2 _ g a n c bs ((b1 : Int) / 4) ((b1 : Int) % 4) v4 v6 v8 v9 v10 v12 v16 h6.out hn E4.out.1 E4.out.2.1 E4.out.2.2.1 E4.out.2.2.2.1 E4.out.2.2.2.2.1 E4.out.2.2.2.2.2.1 E4.out.2.2.2.2.2.2) ?_
    rintro e w7 ⟨rfl, r7, g7⟩
    have q7 := Lib.hid (K.kept g7 q6.out (fun k hk => by cases hk; omega))
    have z7 := Lib.hid (K.kept g7 z6.out (fun k hk => by cases hk; omega))
    have G7 := Lib.hid (grownBy_trans G6.out g7)
    have h7 := Lib.hid r7
    clear r7 g7 q6 z6 G6 h6
    go_wp2_with (with_reducible refine storeF rfl _ _ rfl w2.heap.size rfl rfl q7.out ?_)
    have q7' := Lib.hid (setRow_heap w7 w2.heap.size _ #[.int .i64 ((b1 : Int) / 4), .int .i64 ((b1 : Int) % 4), .int .i64 (v4 : Int), .int .i64 ((v6 : Int) / 8192), .int .i64 ((v6 : Int) % 8192), .int .i64 (v8 : Int), .int .i64 (v9 : Int), .int .i64 4, .int .i64 0, .int .i64 0, .int .i64 0, .int .i64 (v12 : Int), .int .i64 4, .int .i64 0, .int .i64 0, .int .i64 0, .int .i64 (v16 : Int), .slice none 0 0, .slice none 0 0] _ _ q7.out)
    have z7' := Lib.hid (show (w7.setRow w2.heap.size #[.int .i64 ((b1 : Int) / 4), .int .i64 ((b1 : Int) % 4), .int .i64 (v4 : Int), .int .i64 ((v6 : Int) / 8192), .int .i64 ((v6 : Int) % 8192), .int .i64 (v8 : Int), .int .i64 (v9 : Int), .int .i64 4, .int .i64 0, .int .i64 0, .int .i64 0, .int .i64 (v12 : Int), .int .i64 4, .int .i64 0, .int .i64 0, .int .i64 0, .int .i64 (v16 : Int), .slice none 0 0, .slice none 0 0]).heap[w.heap.size]? = some (.cells #[.int .i64 0, .int .i64 0, .int .i64 0, .int .i64 0, .int .i64 0, .int .i64 0, .int .i64 0, .int .i64 0, .int .i64 0, .int .i64 0, .int .i64 0, .int .i64 0, .int .i64 0, .int .i64 0, .int .i64 0, .int .i64 0, .int .i64 0, .slice none 0 0, .slice none 0 0] 52 (0, 0)) by rw [setRow_other _ _ _ _ (by omega)]; exact z7.out)
    have G7' := Lib.hid (grown_other G7.out (K.setRow_grown w7 w2.heap.size #[.int .i64 ((b1 : Int) / 4), .int .i64 ((b1 : Int) % 4), .int .i64 (v4 : Int), .int .i64 ((v6 : Int) / 8192), .int .i64 ((v6 : Int) % 8192), .int .i64 (v8 : Int), .int .i64 (v9 : Int), .int .i64 4, .int .i64 0, .int .i64 0, .int .i64 0, .int .i64 (v12 : Int), .int .i64 4, .int .i64 0, .int .i64 0, .int .i64 0, .int .i64 (v16 : Int), .slice none 0 0, .slice none 0 0]) (fun u hu => by cases hu; exact Nat.le_of_lt lf))
    have h7' := Lib.hid (h7.out.away (K.setRow_grown w7 w2.heap.size #[.int .i64 ((b1 : Int) / 4), .int .i64 ((b1 : Int) % 4), .int .i64 (v4 : Int), .int .i64 ((v6 : Int) / 8192), .int .i64 ((v6 : Int) % 8192), .int .i64 (v8 : Int), .int .i64 (v9 : Int), .int .i64 4, .int .i64 0, .int .i64 0, .int .i64 0, .int .i64 (v12 : Int), .int .i64 4, .int .i64 0, .int .i64 0, .int .i64 0, .int .i64 (v16 : Int), .slice none 0 0, .slice none 0 0]) (fun q hq => by cases hq; exact lg))
    refine Calls.mono (takeP _ g a n c bs 20 p h7'.out (by have := EP.out; omega)) ?_
    rintro e w8 ⟨A8, c8, rfl, o8, r8, g8⟩
    rw [ES.out.1] at o8
    have hl8 : w2.heap.size < w7.heap.size := K.lt q7.out
    have O8 := Lib.hid (own_base o8 (show w2.heap.size + 1 ≤ _ by simp only [setRow_size]; exact hl8))
    have L8 := Lib.hid o8.lt
    have q8 := Lib.hid (K.kept g8 q7'.out (fun k hk => by cases hk; omega))
    have z8 := Lib.hid (K.kept g8 z7'.out (fun k hk => by cases hk; omega))
    have G8 := Lib.hid (grownBy_trans G7'.out g8)
    have h8 := Lib.hid (show Rp w8 g (some a) n c bs hd by rw [EP.out.1]; exact r8)
    clear o8 r8 g8 q7 z7 G7 h7 q7' z7' G7' h7'
    have u17 := K.cell q8.out 17 _ rfl
    have x17 := frozen_of_row _ _ 17 _ _ q8.out
    go_wp2_with fail
    clear u17 x17
    have GS := Lib.hid (grownBy_set w8 w2.heap.size 17 (.slice A8 p c8))
    have q8' : Hid ((w8.setCell ⟨w2.heap.size, 17, none⟩ (.slice A8 p c8)).heap[w2.heap.size]? = some (.cells #[.int .i64 ((b1 : Int) / 4), .int .i64 ((b1 : Int) % 4), .int .i64 (v4 : Int), .int .i64 ((v6 : Int) / 8192), .int .i64 ((v6 : Int) % 8192), .int .i64 (v8 : Int), .int .i64 (v9 : Int), .int .i64 4, .int .i64 0, .int .i64 0, .int .i64 0, .int .i64 (v12 : Int), .int .i64 4, .int .i64 0, .int .i64 0, .int .i64 0, .int .i64 (v16 : Int), .slice A8 p c8, .slice none 0 0] 52 (0, 0))) := Lib.hid (K.set q8.out 17 _)
    have z8' := Lib.hid (K.other z8.out w2.heap.size 17 (.slice A8 p c8) (by omega))
    have G8' := Lib.hid (grown_other G8.out GS.out (fun u hu => by cases hu; exact Nat.le_of_lt lf))
    have h8' := Lib.hid (h8.out.away GS.out (fun q hq => by cases hq; exact lg))
    have O8' := Lib.hid (own_set O8.out w2.heap.size 17 (.slice A8 p c8) (by omega))
    refine Calls.mono (takeP _ g a n c bs hd q h8'.out (by have := EP.out; omega)) ?_
    rintro e w9 ⟨D9, d9, rfl, o9, r9, g9⟩
    rw [ES.out.2] at o9
    have AP := Lib.hid (apart_of (fun k hk => O8'.out.lt k hk) (fun k hk => o9.lt k hk))
    have O9 := Lib.hid (own_grown O8'.out g9 (fun k hk e => by have := (O8'.out.lt k hk).1; injection e with e; omega))
    have P9 := Lib.hid (own_base o9 (show w2.heap.size + 1 ≤ _ from K.lt q8'.out))
    have q9 := Lib.hid (K.kept g9 q8'.out (fun k hk => by cases hk; omega))
    have z9 := Lib.hid (K.kept g9 z8'.out (fun k hk => by cases hk; omega))
    have G9 := Lib.hid (grownBy_trans G8'.out g9)
    have h9 := Lib.hid (show Rp w9 g (some a) n c bs t by rw [EP.out.2]; exact r9)
    clear o9 r9 g9 q8 z8 G8 h8 q8' z8' G8' h8' O8 O8' GS
    have u18 := K.cell q9.out 18 _ rfl
    have x18 := frozen_of_row _ _ 18 _ _ q9.out
    have GS := Lib.hid (grownBy_set w9 w2.heap.size 18 (.slice D9 q d9))
    have qa : Hid ((w9.setCell ⟨w2.heap.size, 18, none⟩ (.slice D9 q d9)).heap[w2.heap.size]? = some (.cells #[.int .i64 ((b1 : Int) / 4), .int .i64 ((b1 : Int) % 4), .int .i64 (v4 : Int), .int .i64 ((v6 : Int) / 8192), .int .i64 ((v6 : Int) % 8192), .int .i64 (v8 : Int), .int .i64 (v9 : Int), .int .i64 4, .int .i64 0, .int .i64 0, .int .i64 0, .int .i64 (v12 : Int), .int .i64 4, .int .i64 0, .int .i64 0, .int .i64 0, .int .i64 (v16 : Int), .slice A8 p c8, .slice D9 q d9] 52 (0, 0))) := Lib.hid (K.set q9.out 18 _)
    have za := Lib.hid (K.other z9.out w2.heap.size 18 (.slice D9 q d9) (by omega))
    have Ga := Lib.hid (grown_other G9.out GS.out (fun u hu => by cases hu; exact Nat.le_of_lt lf))
    have ha := Lib.hid (h9.out.away GS.out (fun q hq => by cases hq; exact lg))
    have Oa := Lib.hid (own_set O9.out w2.heap.size 18 (.slice D9 q d9) (by omega))
    have Pa := Lib.hid (own_set P9.out w2.heap.size 18 (.slice D9 q d9) (by omega))
    go_upto_region 16 with fail
    clear u18 x18 GS q9 z9 G9 h9 O9 P9
    generalize w9.setCell ⟨w2.heap.size, 18, none⟩ (.slice D9 q d9) = W at qa za Ga ha Oa Pa ⊢
    go_wp2_with (with_reducible refine loadF rfl _ rfl w2.heap.size rfl qa.out ?_)
    refine Calls.mono (sumIC (⟨(b1 : Int) / 4, (b1 : Int) % 4, v4, (v6 : Int) / 8192, (v6 : Int) % 8192, v8, v9, ⟨4, 0, 0, 0, v12⟩, ⟨4, 0, 0, 0, v16⟩⟩ : Fh) A8 D9 p c8 q d9 os _ (RB.of_own Oa.out) (by rw [← ES.out.1]; have := hln.out; have := EP.out; simp; omega)) ?_
    rintro e wb ⟨rfl, bb⟩
    have qb := Lib.hid (K.below bb qa.out)
    have zb := Lib.hid (K.below bb za.out)
    have Gb := Lib.hid (grownBy_trans Ga.out (below_grown bb _))
    have hb := Lib.hid (ha.out.below bb)
    have Ob := Lib.hid (own_below Oa.out bb)
    have Pb := Lib.hid (own_below Pa.out bb)
    clear bb qa za Ga ha Oa Pa
    have hs := HS.out
    generalize (⟨(b1 : Int) / 4, (b1 : Int) % 4, v4, (v6 : Int) / 8192, (v6 : Int) % 8192, v8, v9, ⟨4, 0, 0, 0, v12⟩, ⟨4, 0, 0, 0, v16⟩⟩ : Fh).sum os q = y at hs ⊢
    go_wp2_with (with_reducible refine storeF rfl _ _ rfl w.heap.size rfl rfl zb.out ?_)
    (try simp only [Exit.inBlock, Exit.then])
    refine bodyPost_ret (v := .tuple #[.agg #[.int .i64 0, .int .i64 0, .int .i64 0, .int .i64 0, .int .i64 0, .int .i64 0, .int .i64 0, .int .i64 0, .int .i64 0, .int .i64 0, .int .i64 0, .int .i64 0, .int .i64 0, .int .i64 0, .int .i64 0, .int .i64 0, .int .i64 0, .slice none 0 0, .slice none 0 0], .int .i64 6]) ?_ rfl ⟨rfl, ?_⟩
    · exact K.resCellTmp Try.results77 _ _ _ w.heap.size _ rfl (run_loadVar_row _ _ 52 52 _ (0, 0) _ (setRow_heap _ _ _ _ _ _ zb.out) Try.underlying52 rfl info_four)
    · exact grown_other Gb.out (K.setRow_grown _ _ _) (fun u hu => by cases hu; exact Nat.le_refl _)

set_option maxRecDepth 100000 in
set_option maxHeartbeats 4000000 in
theorem fourOf_0 (w : World) (g : Nat) (a : Addr) (n c : Nat) (bs : List UInt8) (b0 : Nat) (h : Rp w g (some a) n c bs 0) (hn : 20 ≤ n) (e0 : num bs 0 1 = b0) (hv : (b0 : Int) / 16 = 4) (hd : Nat) (ed : 4 * (b0 % 16) = hd) (hh : 20 ≤ hd ∧ hd ≤ n) (b1 t : Nat) (e1 : num bs 1 1 = b1) (et : num bs 2 2 = t) (ht : hd ≤ t ∧ t ≤ 1500 ∧ t ≤ n) (v4 v6 v8 v9 v10 v12 v16 : Nat) (e4 : num bs 4 2 = v4) (e6 : num bs 6 2 = v6) (e8 : num bs 8 1 = v8) (e9 : num bs 9 1 = v9) (e10 : num bs 10 2 = v10) (e12 : num bs 12 4 = v12) (e16 : num bs 16 4 = v16) (p q : Nat) (ep : hd = 20 + p) (eq : t = hd + q) (os ds : List UInt8) (eos : (bs.drop 20).take p = os) (eds : (bs.drop hd).take q = ds) (hs : (v10 : Int) = (⟨(b1 : Int) / 4, (b1 : Int) % 4, v4, (v6 : Int) / 8192, (v6 : Int) % 8192, v8, v9, ⟨4, 0, 0, 0, v12⟩, ⟨4, 0, 0, 0, v16⟩⟩ : Fh).sum os q) :
    Calls Try.prog 77 #[.pointer (some ⟨g, 0, none⟩)] w (FoYes (⟨(b1 : Int) / 4, (b1 : Int) % 4, v4, (v6 : Int) / 8192, (v6 : Int) % 8192, v8, v9, ⟨4, 0, 0, 0, v12⟩, ⟨4, 0, 0, 0, v16⟩⟩ : Fh) os ds p q t g a n c bs w) := by
  have hb0 : b0 < 256 := by rw [← e0]; exact num_lt1 bs 0
  have hgl := h.lt
  have hsm := h.small
  have hln := Lib.hid h.len
  have E4 := Lib.hid (And.intro e4 (And.intro e6 (And.intro e8 (And.intro e9 (And.intro e10 (And.intro e12 e16))))))
  have hb6 : v6 < 65536 := by rw [← e6]; exact num_lt2 bs 6
  have EP := Lib.hid (And.intro ep eq)
  have ES := Lib.hid (And.intro eos eds)
  have HS := Lib.hid hs
  clear e4 e6 e8 e9 e10 e12 e16 ep eq eos eds hs
  have hwd : IntKind.i64.wrap (4 * ((b0 : Int) % 16)) = (hd : Int) := by rw [IntKind.wrap_i64]; omega
  have hwd2 : 4 * ((b0 : Int) % 16) = (hd : Int) := by omega
  have h0 := Lib.hid (h.below (Joins.below_alloc1 w (.cells #[.int .i64 0, .int .i64 0, .int .i64 0, .int .i64 0, .int .i64 0, .int .i64 0, .int .i64 0, .int .i64 0, .int .i64 0, .int .i64 0, .int .i64 0, .int .i64 0, .int .i64 0, .int .i64 0, .int .i64 0, .int .i64 0, .int .i64 0, .slice none 0 0, .slice none 0 0] 52)))
  have z0 := Lib.hid (K.new w (.cells #[.int .i64 0, .int .i64 0, .int .i64 0, .int .i64 0, .int .i64 0, .int .i64 0, .int .i64 0, .int .i64 0, .int .i64 0, .int .i64 0, .int .i64 0, .int .i64 0, .int .i64 0, .int .i64 0, .int .i64 0, .int .i64 0, .int .i64 0, .slice none 0 0, .slice none 0 0] 52))
  have G0 := Lib.hid (show w.grownBy (w.alloc (.cells #[.int .i64 0, .int .i64 0, .int .i64 0, .int .i64 0, .int .i64 0, .int .i64 0, .int .i64 0, .int .i64 0, .int .i64 0, .int .i64 0, .int .i64 0, .int .i64 0, .int .i64 0, .int .i64 0, .int .i64 0, .int .i64 0, .int .i64 0, .slice none 0 0, .slice none 0 0] 52)) (some g) from only_new (K.refl w _) _)
  have E0 := Lib.hid e0
  clear h e0
  have HD := Lib.hid ed
  clear ed
  go_enter Try.func77, Try.ntmps77
  go_wp2_with fail
  refine Calls.mono (leftP _ g (some a) n c bs 0 n h0.out (by omega)) ?_
  rintro e w1 ⟨rfl, b1'⟩
  have h1 := Lib.hid (h0.out.below b1')
  have z1 := Lib.hid (K.below b1' z0.out)
  have G1 := Lib.hid (grownBy_trans G0.out (below_grown b1' _))
  clear b1'
  go_wp2_with fail
  refine Calls.mono (splitP_4 _ g (some a) n c bs 0 1 b0 E0.out (by omega) h1.out (by omega) (by omega) (by omega)) ?_
  rintro e w2 ⟨rfl, r2, g2⟩
  have h2 := Lib.hid r2
  have z2 := Lib.hid (K.kept g2 z1.out (fun k hk => by cases hk; omega))
  have G2 := Lib.hid (grownBy_trans G1.out g2)
  clear r2 g2
  go_wp2_with fail
  refine Calls.mono (within_yes _ _ _ _ (by omega) (by omega)) ?_
  rintro e w3 ⟨rfl, rfl⟩
  have hb1 : b1 < 256 := by rw [← e1]; exact num_lt1 bs 1
  have E1 := Lib.hid (And.intro e1 et)
  clear e1 et
  have q2 := Lib.hid (K.new w2 (.cells #[.int .i64 0, .int .i64 0, .int .i64 0, .int .i64 0, .int .i64 0, .int .i64 0, .int .i64 0, .int .i64 0, .int .i64 0, .int .i64 0, .int .i64 0, .int .i64 0, .int .i64 0, .int .i64 0, .int .i64 0, .int .i64 0, .int .i64 0, .slice none 0 0, .slice none 0 0] 52))
  have z3 := Lib.hid (K.old z2.out (.cells #[.int .i64 0, .int .i64 0, .int .i64 0, .int .i64 0, .int .i64 0, .int .i64 0, .int .i64 0, .int .i64 0, .int .i64 0, .int .i64 0, .int .i64 0, .int .i64 0, .int .i64 0, .int .i64 0, .int .i64 0, .int .i64 0, .int .i64 0, .slice none 0 0, .slice none 0 0] 52))
  have h3 := Lib.hid (h2.out.below (Joins.below_alloc1 w2 (.cells #[.int .i64 0, .int .i64 0, .int .i64 0, .int .i64 0, .int .i64 0, .int .i64 0, .int .i64 0, .int .i64 0, .int .i64 0, .int .i64 0, .int .i64 0, .int .i64 0, .int .i64 0, .int .i64 0, .int .i64 0, .int .i64 0, .int .i64 0, .slice none 0 0, .slice none 0 0] 52)))
  have G3 := Lib.hid (only_new G2.out (.cells #[.int .i64 0, .int .i64 0, .int .i64 0, .int .i64 0, .int .i64 0, .int .i64 0, .int .i64 0, .int .i64 0, .int .i64 0, .int .i64 0, .int .i64 0, .int .i64 0, .int .i64 0, .int .i64 0, .int .i64 0, .int .i64 0, .int .i64 0, .slice none 0 0, .slice none 0 0] 52))
  have lf := K.lt z2.out
  have lg := h2.out.lt
  go_wp2_with fail
  refine Calls.mono (splitP_2 _ g (some a) n c bs 1 1 b1 E1.out.1 (by omega) h3.out (by omega) (by omega) (by omega)) ?_
  rintro e w4 ⟨rfl, r4, g4⟩
  have q4 := Lib.hid (K.kept g4 q2.out (fun k hk => by cases hk; omega))
  have z4 := Lib.hid (K.kept g4 z3.out (fun k hk => by cases hk; omega))
  have G4 := Lib.hid (grownBy_trans G3.out g4)
  have S4 := Lib.hid r4
  clear r4 g4
  have u0 := K.cell q4.out 0 _ rfl
  have u1 := K.cell q4.out 1 _ rfl
  have x0 := frozen_of_row _ _ 0 _ _ q4.out
  have x1 := frozen_of_row _ _ 1 _ _ q4.out
  go_wp2_with fail
  clear u0 u1 x0 x1
  have GS := Lib.hid (K.setFrom_self [.int .i64 ((b1 : Int) / 4), .int .i64 ((b1 : Int) % 4)] w4 w2.heap.size 0)
  have q5 : Hid ((K.setFrom w4 w2.heap.size 0 [.int .i64 ((b1 : Int) / 4), .int .i64 ((b1 : Int) % 4)]).heap[w2.heap.size]? = some (.cells #[.int .i64 ((b1 : Int) / 4), .int .i64 ((b1 : Int) % 4), .int .i64 0, .int .i64 0, .int .i64 0, .int .i64 0, .int .i64 0, .int .i64 0, .int .i64 0, .int .i64 0, .int .i64 0, .int .i64 0, .int .i64 0, .int .i64 0, .int .i64 0, .int .i64 0, .int .i64 0, .slice none 0 0, .slice none 0 0] 52 (0, 0))) := Lib.hid (K.set (K.set q4.out 0 _) 1 _)
  have z5 := Lib.hid (K.setFrom_other [.int .i64 ((b1 : Int) / 4), .int .i64 ((b1 : Int) % 4)] 0 z4.out (show w.heap.size ≠ w2.heap.size by omega))
  have G5 := Lib.hid (grown_other G4.out GS.out (fun u hu => by cases hu; exact Nat.le_of_lt lf))
  have h5 := Lib.hid (S4.out.away GS.out (fun q hq => by cases hq; exact lg))
  refine Calls.mono (numberP _ g (some a) n c bs 2 2 t E1.out.2 h5.out (by omega) (by omega) (by omega)) ?_
  rintro e w6 ⟨rfl, r6, g6⟩
  have q6 := Lib.hid (K.kept g6 q5.out (fun k hk => by cases hk; omega))
  have z6 := Lib.hid (K.kept g6 z5.out (fun k hk => by cases hk; omega))
  have G6 := Lib.hid (grownBy_trans G5.out g6)
  have h6 := Lib.hid r6
  clear r6 g6 q2 z3 h3 G3 q4 z4 G4 S4 GS q5 z5 G5 h5
  go_wp2_with fail
  all_goals
    refine Calls.mono (within_yes _ _ _ _ (by omega) (by omega)) ?_
    rintro e w7 ⟨rfl, rfl⟩
    have hp : (hd : Int) - 20 = (p : Int) := by have := EP.out; omega
    have hq : (t : Int) - (hd : Int) = (q : Int) := by have := EP.out; omega
    go_wp2_with (with_reducible refine loadF rfl _ rfl w2.heap.size rfl q6.out ?_)
    refine Calls.mono (afterC2 _ g a n c bs ((b1 : Int) / 4) ((b1 : Int) % 4) v4 v6 v8 v9 v10 v12 v16 h6.out hn E4.out.1 E4.out.2.1 E4.out.2.2.1 E4.out.2.2.2.1 E4.out.2.2.2.2.1 E4.out.2.2.2.2.2.1 E4.out.2.2.2.2.2.2) ?_
    rintro e w7 ⟨rfl, r7, g7⟩
    have q7 := Lib.hid (K.kept g7 q6.out (fun k hk => by cases hk; omega))
    have z7 := Lib.hid (K.kept g7 z6.out (fun k hk => by cases hk; omega))
    have G7 := Lib.hid (grownBy_trans G6.out g7)
    have h7 := Lib.hid r7
    clear r7 g7 q6 z6 G6 h6
    go_wp2_with (with_reducible refine storeF rfl _ _ rfl w2.heap.size rfl rfl q7.out ?_)
    have q7' := Lib.hid (setRow_heap w7 w2.heap.size _ #[.int .i64 ((b1 : Int) / 4), .int .i64 ((b1 : Int) % 4), .int .i64 (v4 : Int), .int .i64 ((v6 : Int) / 8192), .int .i64 ((v6 : Int) % 8192), .int .i64 (v8 : Int), .int .i64 (v9 : Int), .int .i64 4, .int .i64 0, .int .i64 0, .int .i64 0, .int .i64 (v12 : Int), .int .i64 4, .int .i64 0, .int .i64 0, .int .i64 0, .int .i64 (v16 : Int), .slice none 0 0, .slice none 0 0] _ _ q7.out)
    have z7' := Lib.hid (show (w7.setRow w2.heap.size #[.int .i64 ((b1 : Int) / 4), .int .i64 ((b1 : Int) % 4), .int .i64 (v4 : Int), .int .i64 ((v6 : Int) / 8192), .int .i64 ((v6 : Int) % 8192), .int .i64 (v8 : Int), .int .i64 (v9 : Int), .int .i64 4, .int .i64 0, .int .i64 0, .int .i64 0, .int .i64 (v12 : Int), .int .i64 4, .int .i64 0, .int .i64 0, .int .i64 0, .int .i64 (v16 : Int), .slice none 0 0, .slice none 0 0]).heap[w.heap.size]? = some (.cells #[.int .i64 0, .int .i64 0, .int .i64 0, .int .i64 0, .int .i64 0, .int .i64 0, .int .i64 0, .int .i64 0, .int .i64 0, .int .i64 0, .int .i64 0, .int .i64 0, .int .i64 0, .int .i64 0, .int .i64 0, .int .i64 0, .int .i64 0, .slice none 0 0, .slice none 0 0] 52 (0, 0)) by rw [setRow_other _ _ _ _ (by omega)]; exact z7.out)
    have G7' := Lib.hid (grown_other G7.out (K.setRow_grown w7 w2.heap.size #[.int .i64 ((b1 : Int) / 4), .int .i64 ((b1 : Int) % 4), .int .i64 (v4 : Int), .int .i64 ((v6 : Int) / 8192), .int .i64 ((v6 : Int) % 8192), .int .i64 (v8 : Int), .int .i64 (v9 : Int), .int .i64 4, .int .i64 0, .int .i64 0, .int .i64 0, .int .i64 (v12 : Int), .int .i64 4, .int .i64 0, .int .i64 0, .int .i64 0, .int .i64 (v16 : Int), .slice none 0 0, .slice none 0 0]) (fun u hu => by cases hu; exact Nat.le_of_lt lf))
    have h7' := Lib.hid (h7.out.away (K.setRow_grown w7 w2.heap.size #[.int .i64 ((b1 : Int) / 4), .int .i64 ((b1 : Int) % 4), .int .i64 (v4 : Int), .int .i64 ((v6 : Int) / 8192), .int .i64 ((v6 : Int) % 8192), .int .i64 (v8 : Int), .int .i64 (v9 : Int), .int .i64 4, .int .i64 0, .int .i64 0, .int .i64 0, .int .i64 (v12 : Int), .int .i64 4, .int .i64 0, .int .i64 0, .int .i64 0, .int .i64 (v16 : Int), .slice none 0 0, .slice none 0 0]) (fun q hq => by cases hq; exact lg))
    refine Calls.mono (takeP _ g a n c bs 20 p h7'.out (by have := EP.out; omega)) ?_
    rintro e w8 ⟨A8, c8, rfl, o8, r8, g8⟩
    rw [ES.out.1] at o8
    have hl8 : w2.heap.size < w7.heap.size := K.lt q7.out
    have O8 := Lib.hid (own_base o8 (show w2.heap.size + 1 ≤ _ by simp only [setRow_size]; exact hl8))
    have L8 := Lib.hid o8.lt
    have q8 := Lib.hid (K.kept g8 q7'.out (fun k hk => by cases hk; omega))
    have z8 := Lib.hid (K.kept g8 z7'.out (fun k hk => by cases hk; omega))
    have G8 := Lib.hid (grownBy_trans G7'.out g8)
    have h8 := Lib.hid (show Rp w8 g (some a) n c bs hd by rw [EP.out.1]; exact r8)
    clear o8 r8 g8 q7 z7 G7 h7 q7' z7' G7' h7'
    have u17 := K.cell q8.out 17 _ rfl
    have x17 := frozen_of_row _ _ 17 _ _ q8.out
    go_wp2_with fail
    clear u17 x17
    have GS := Lib.hid (grownBy_set w8 w2.heap.size 17 (.slice A8 p c8))
    have q8' : Hid ((w8.setCell ⟨w2.heap.size, 17, none⟩ (.slice A8 p c8)).heap[w2.heap.size]? = some (.cells #[.int .i64 ((b1 : Int) / 4), .int .i64 ((b1 : Int) % 4), .int .i64 (v4 : Int), .int .i64 ((v6 : Int) / 8192), .int .i64 ((v6 : Int) % 8192), .int .i64 (v8 : Int), .int .i64 (v9 : Int), .int .i64 4, .int .i64 0, .int .i64 0, .int .i64 0, .int .i64 (v12 : Int), .int .i64 4, .int .i64 0, .int .i64 0, .int .i64 0, .int .i64 (v16 : Int), .slice A8 p c8, .slice none 0 0] 52 (0, 0))) := Lib.hid (K.set q8.out 17 _)
    have z8' := Lib.hid (K.other z8.out w2.heap.size 17 (.slice A8 p c8) (by omega))
    have G8' := Lib.hid (grown_other G8.out GS.out (fun u hu => by cases hu; exact Nat.le_of_lt lf))
    have h8' := Lib.hid (h8.out.away GS.out (fun q hq => by cases hq; exact lg))
    have O8' := Lib.hid (own_set O8.out w2.heap.size 17 (.slice A8 p c8) (by omega))
    refine Calls.mono (takeP _ g a n c bs hd q h8'.out (by have := EP.out; omega)) ?_
    rintro e w9 ⟨D9, d9, rfl, o9, r9, g9⟩
    rw [ES.out.2] at o9
    have AP := Lib.hid (apart_of (fun k hk => O8'.out.lt k hk) (fun k hk => o9.lt k hk))
    have O9 := Lib.hid (own_grown O8'.out g9 (fun k hk e => by have := (O8'.out.lt k hk).1; injection e with e; omega))
    have P9 := Lib.hid (own_base o9 (show w2.heap.size + 1 ≤ _ from K.lt q8'.out))
    have q9 := Lib.hid (K.kept g9 q8'.out (fun k hk => by cases hk; omega))
    have z9 := Lib.hid (K.kept g9 z8'.out (fun k hk => by cases hk; omega))
    have G9 := Lib.hid (grownBy_trans G8'.out g9)
    have h9 := Lib.hid (show Rp w9 g (some a) n c bs t by rw [EP.out.2]; exact r9)
    clear o9 r9 g9 q8 z8 G8 h8 q8' z8' G8' h8' O8 O8' GS
    have u18 := K.cell q9.out 18 _ rfl
    have x18 := frozen_of_row _ _ 18 _ _ q9.out
    have GS := Lib.hid (grownBy_set w9 w2.heap.size 18 (.slice D9 q d9))
    have qa : Hid ((w9.setCell ⟨w2.heap.size, 18, none⟩ (.slice D9 q d9)).heap[w2.heap.size]? = some (.cells #[.int .i64 ((b1 : Int) / 4), .int .i64 ((b1 : Int) % 4), .int .i64 (v4 : Int), .int .i64 ((v6 : Int) / 8192), .int .i64 ((v6 : Int) % 8192), .int .i64 (v8 : Int), .int .i64 (v9 : Int), .int .i64 4, .int .i64 0, .int .i64 0, .int .i64 0, .int .i64 (v12 : Int), .int .i64 4, .int .i64 0, .int .i64 0, .int .i64 0, .int .i64 (v16 : Int), .slice A8 p c8, .slice D9 q d9] 52 (0, 0))) := Lib.hid (K.set q9.out 18 _)
    have za := Lib.hid (K.other z9.out w2.heap.size 18 (.slice D9 q d9) (by omega))
    have Ga := Lib.hid (grown_other G9.out GS.out (fun u hu => by cases hu; exact Nat.le_of_lt lf))
    have ha := Lib.hid (h9.out.away GS.out (fun q hq => by cases hq; exact lg))
    have Oa := Lib.hid (own_set O9.out w2.heap.size 18 (.slice D9 q d9) (by omega))
    have Pa := Lib.hid (own_set P9.out w2.heap.size 18 (.slice D9 q d9) (by omega))
    go_upto_region 16 with fail
    clear u18 x18 GS q9 z9 G9 h9 O9 P9
    generalize w9.setCell ⟨w2.heap.size, 18, none⟩ (.slice D9 q d9) = W at qa za Ga ha Oa Pa ⊢
    go_wp2_with (with_reducible refine loadF rfl _ rfl w2.heap.size rfl qa.out ?_)
    refine Calls.mono (sumIC (⟨(b1 : Int) / 4, (b1 : Int) % 4, v4, (v6 : Int) / 8192, (v6 : Int) % 8192, v8, v9, ⟨4, 0, 0, 0, v12⟩, ⟨4, 0, 0, 0, v16⟩⟩ : Fh) A8 D9 p c8 q d9 os _ (RB.of_own Oa.out) (by rw [← ES.out.1]; have := hln.out; have := EP.out; simp; omega)) ?_
    rintro e wb ⟨rfl, bb⟩
    have qb := Lib.hid (K.below bb qa.out)
    have zb := Lib.hid (K.below bb za.out)
    have Gb := Lib.hid (grownBy_trans Ga.out (below_grown bb _))
    have hb := Lib.hid (ha.out.below bb)
    have Ob := Lib.hid (own_below Oa.out bb)
    have Pb := Lib.hid (own_below Pa.out bb)
    clear bb qa za Ga ha Oa Pa
    have hs := HS.out
    generalize (⟨(b1 : Int) / 4, (b1 : Int) % 4, v4, (v6 : Int) / 8192, (v6 : Int) % 8192, v8, v9, ⟨4, 0, 0, 0, v12⟩, ⟨4, 0, 0, 0, v16⟩⟩ : Fh).sum os q = y at hs ⊢
    go_wp2_with (first | (with_reducible refine loadF rfl _ rfl w2.heap.size rfl qb.out ?_) | (with_reducible refine storeF rfl _ _ rfl w.heap.size rfl rfl zb.out ?_))
    (try simp only [Exit.inBlock, Exit.then])
    refine bodyPost_ret (v := .tuple #[.agg #[.int .i64 ((b1 : Int) / 4), .int .i64 ((b1 : Int) % 4), .int .i64 (v4 : Int), .int .i64 ((v6 : Int) / 8192), .int .i64 ((v6 : Int) % 8192), .int .i64 (v8 : Int), .int .i64 (v9 : Int), .int .i64 4, .int .i64 0, .int .i64 0, .int .i64 0, .int .i64 (v12 : Int), .int .i64 4, .int .i64 0, .int .i64 0, .int .i64 0, .int .i64 (v16 : Int), .slice A8 p c8, .slice D9 q d9], .int .i64 0]) ?_ rfl ⟨A8, c8, D9, d9, rfl, own_base (K.setRow_own _ Ob.out (by omega)) (by omega), own_base (K.setRow_own _ Pb.out (by omega)) (by omega), AP.out, hb.out.away (K.setRow_grown _ _ _) (fun q hq => by cases hq; omega), grown_other Gb.out (K.setRow_grown _ _ _) (fun u hu => by cases hu; exact Nat.le_refl _)⟩
    exact K.resCellTmp Try.results77 _ _ _ w.heap.size _ rfl (run_loadVar_row _ _ 52 52 _ (0, 0) _ (setRow_heap _ _ _ _ _ _ zb.out) Try.underlying52 rfl info_four)
end Go.Proofs.Ytegpaocoepcemaa

namespace Go.Proofs.Ytegpaocoepcemaa
open Go.RowKit

section
variable {P : Program} {ops : Array Oper} {Q : Exit → Act → World → Prop}

/-- What stands while the region runs. -/
structure KeptT (ops : Array Oper) (Γ : Nat → Nat → World → Value → Prop) (ch : List Nat) (I : Nat → World → Prop) (n : Nat) (a0 : Act) (listed : Array Bool) (a : Act) (w : World) : Prop where
  size : listed.size = ops.size
  len : a.tmps.size = n
  defers : a.defers = a0.defers
  keep : ∀ t, (∀ (j : Nat) o, ops[j]? = some o → o.dst ≠ some t) → a.tmps.getD t undef = a0.tmps.getD t undef
  inv : ∃ m, (∀ (i j : Nat), ch[i]? = some j → (listed.getD j false = true ↔ i < m)) ∧ m ≤ ch.length ∧ I m w ∧ (∀ (j : Nat) o d, ops[j]? = some o → o.dst = some d → listed.getD j false = true → Γ j m w (a.tmps.getD d undef))

theorem wpAny_stage2 {Γ : Nat → Nat → World → Value → Prop} {out ch : List Nat} {I : Nat → World → Prop} {n : Nat} {a0 : Act} (hf : formB ops n out = true) (hch : chainB ops ch = true)
    (hop : ∀ (j : Nat) o, ops[j]? = some o → ∀ m a w K, (∀ t ∈ out, a.tmps.getD t undef = a0.tmps.getD t undef) → (∀ p ∈ needOf ops j, Γ p.1 m w (a.tmps.getD p.2 undef)) → (∀ i, ch[i]? = some j → i = m) → I m w →
      (∀ v w', Γ j (nextOf ch j m) w' v → (∀ i oi d, i ≠ j → ops[i]? = some oi → oi.dst = some d → Γ i m w (a.tmps.getD d undef) → Γ i (nextOf ch j m) w' (a.tmps.getD d undef)) → I (nextOf ch j m) w' → K (a.put o.dst v) w') → o.wp P a w K Q)
    (hend : ∀ a w, a.tmps.size = n → a.defers = a0.defers → (∀ t ∈ out, a.tmps.getD t undef = a0.tmps.getD t undef) → (∀ t, (∀ (j : Nat) o, ops[j]? = some o → o.dst ≠ some t) → a.tmps.getD t undef = a0.tmps.getD t undef) →
      (∀ (j : Nat) o d, ops[j]? = some o → o.dst = some d → Γ j ch.length w (a.tmps.getD d undef)) → I ch.length w → Q .normal a w) :
    ∀ (fuel : Nat) (listed : Array Bool) (a : Act) (w : World), KeptT ops Γ ch I n a0 listed a w → ops.size ≤ up listed + fuel → wpAny P .any ops Q fuel listed a w := by
  have fin : ∀ (listed : Array Bool) (a : Act) (w : World), KeptT ops Γ ch I n a0 listed a w → up listed = ops.size → Q .normal a w := by
    intro listed a w hk hu
    have hall : ∀ j, j < ops.size → listed.getD j false = true := fun j hj => up_all (by rw [hu, hk.size]) (by rw [hk.size]; exact hj)
    obtain ⟨m, hm, hml, hI, hsl⟩ := hk.inv
    have hme : m = ch.length := by
      rcases Nat.lt_or_ge m ch.length with h | h
      · obtain ⟨o, ho, _⟩ := chainB_at hch (List.getElem?_eq_getElem h)
        have := (hm m _ (List.getElem?_eq_getElem h)).1 (hall _ (Array.getElem?_eq_some_iff.1 ho).1)
        omega
      · omega
    subst hme
    refine hend a w hk.len hk.defers (fun t ht => hk.keep t (fun j oj hj hdj => ((formB_at hf hj).2.2 t hdj).2.1 ht)) hk.keep (fun j o d ho hd => hsl j o d ho hd ?_) hI
    exact hall j (Array.getElem?_eq_some_iff.1 ho).1
  intro fuel
  induction fuel with
  | zero =>
    intro listed a w hk hle
    have hu : up listed = ops.size := by have := up_le listed; have := hk.size; omega
    refine ⟨?_, fin listed a w hk hu⟩
    cases hr : Region.ready .any ops listed with
    | nil => rfl
    | cons i l =>
      have hm : i ∈ Region.ready .any ops listed := by rw [hr]; simp
      obtain ⟨h0, _⟩ := mem_ready.1 hm
      have := (up_set h0).1
      have h3 := up_le (listed.setIfInBounds i true)
      have h4 : (listed.setIfInBounds i true).size = listed.size := by simp
      have := hk.size
      omega
  | succ fuel ih =>
    intro listed a w hk hle
    refine ⟨fun hr => fin listed a w hk (some_ready hf hk.size hr), fun i hi => ?_⟩
    obtain ⟨h0, o, ho, hall⟩ := mem_ready.1 hi
    obtain ⟨hu, hil⟩ := up_set h0
    obtain ⟨hlt, hg, hd⟩ := formB_at hf ho
    obtain ⟨m, hm, hml, hI, hsl⟩ := hk.inv
    have hfalse : listed.getD i false = false := by simpa [hil] using h0
    have hnow : ∀ q, ch[q]? = some i → q = m := by
      intro q hq
      have h1 : ¬ q < m := fun h => by rw [(hm q i hq).2 h] at hfalse; cases hfalse
      cases q with
      | zero => omega
      | succ q' =>
        obtain ⟨o', ho', hprev⟩ := chainB_at hch hq
        obtain rfl : o = o' := Option.some.inj (ho.symm.trans ho')
        obtain ⟨e, he, hb, hce⟩ := hprev q' rfl
        have := (hm q' e.on hce).1 (hall e he hb)
        omega
    unfold wpOp
    simp only [ho]
    rw [if_pos (by simp [Region.wanted, hg])]
    left
    refine hop i o ho m a w _ (fun t ht => hk.keep t (fun j oj hj hdj => ?_)) (fun p hp => ?_) hnow hI ?_
    · exact ((formB_at hf hj).2.2 t hdj).2.1 ht
    · obtain ⟨⟨e, he, hep, hb⟩, oj, hoj, hdj⟩ := needOf_spec ho hp
      exact hsl p.1 oj p.2 hoj hdj (by rw [← hep]; exact hall e he hb)
    · intro v w' hv hR hI'
      refine ih _ _ _ ⟨by simpa using hk.size, by rw [put_size]; exact hk.len, by rw [put_defers']; exact hk.defers, fun t ht => ?_, ⟨nextOf ch i m, ?_, ?_, hI', fun j oj d hj hdj hl => ?_⟩⟩ (by omega)
      · rw [put_other a v (ht i o ho)]
        exact hk.keep t ht
      · intro q j hq
        by_cases hji : j = i
        · subst hji
          have hqm := hnow q hq
          have hc : j ∈ ch := List.mem_of_getElem? hq
          rw [getD_set_own hil]
          simp [nextOf, hc, hqm]
        · rw [getD_set_ne (listed := listed) false (Ne.symm hji), hm q j hq]
          unfold nextOf
          split
          · rename_i hc
            obtain ⟨q', hq'⟩ := List.mem_iff_getElem?.1 (show i ∈ ch by simpa using hc)
            have h1 := hnow q' hq'
            have h2 : q ≠ m := fun e => hji (Option.some.inj ((e ▸ hq).symm.trans (h1 ▸ hq')))
            omega
          · exact Iff.rfl
      · unfold nextOf
        split
        · rename_i hc
          obtain ⟨q', hq'⟩ := List.mem_iff_getElem?.1 (show i ∈ ch by simpa using hc)
          have h1 := hnow q' hq'
          have := (List.getElem?_eq_some_iff.1 hq').1
          omega
        · exact hml
      · by_cases hji : j = i
        · subst hji
          obtain rfl : o = oj := Option.some.inj (ho.symm.trans hj)
          rw [hdj, put_own a v (hd d hdj).1 hk.len]
          exact hv
        · have hne : o.dst ≠ some d := fun e => hji ((hd d e).2.2 j oj hj hdj)
          rw [put_other a v hne]
          refine hR j oj d hji hj hdj (hsl j oj d hj hdj ?_)
          rw [← getD_set_ne (listed := listed) false (Ne.symm hji)]
          exact hl

theorem wp_region_stage2 {id : Nat} {a : Act} {w : World} (hmx : P.follows .mixedOrders = true) (Γ : Nat → Nat → World → Value → Prop) (out ch : List Nat) (I : Nat → World → Prop) (n : Nat) (hf : formB ops n out = true) (hch : chainB ops ch = true)
    (hn : a.tmps.size = n) (h0 : I 0 { w with drawn := w.drawn + 1 })
    (hop : ∀ (j : Nat) o, ops[j]? = some o → ∀ m a' w K, (∀ t ∈ out, a'.tmps.getD t undef = a.tmps.getD t undef) → (∀ p ∈ needOf ops j, Γ p.1 m w (a'.tmps.getD p.2 undef)) → (∀ i, ch[i]? = some j → i = m) → I m w →
      (∀ v w', Γ j (nextOf ch j m) w' v → (∀ i oi d, i ≠ j → ops[i]? = some oi → oi.dst = some d → Γ i m w (a'.tmps.getD d undef) → Γ i (nextOf ch j m) w' (a'.tmps.getD d undef)) → I (nextOf ch j m) w' → K (a'.put o.dst v) w') → o.wp P a' w K Q)
    (hend : ∀ a' w', a'.tmps.size = n → a'.defers = a.defers → (∀ t ∈ out, a'.tmps.getD t undef = a.tmps.getD t undef) → (∀ t, (∀ (j : Nat) o, ops[j]? = some o → o.dst ≠ some t) → a'.tmps.getD t undef = a.tmps.getD t undef) →
      (∀ (j : Nat) o d, ops[j]? = some o → o.dst = some d → Γ j ch.length w' (a'.tmps.getD d undef)) → I ch.length w' → Q .normal a' w') : (Code.region id ops true).wp P Q a w := by
  have hfl : ∀ j, (Array.replicate ops.size false).getD j false = false := by
    intro j
    simp [Array.getElem?_replicate]
    split <;> simp
  refine wp_region_any hmx (wpAny_stage2 (out := out) (ch := ch) (I := I) (Γ := Γ) (n := n) (a0 := a) hf hch hop hend ops.size _ a _ ⟨by simp, hn, rfl, fun _ _ => rfl, ⟨0, fun i j _ => ?_, Nat.zero_le _, h0, fun j o d _ _ hl => ?_⟩⟩ (by omega))
  · rw [hfl j]
    simp
  · rw [hfl j] at hl
    cases hl
end
end Go.Proofs.Ytegpaocoepcemaa

namespace Go.Proofs.Ytegpaocoepcemaa
set_option maxRecDepth 100000
open Go.RowKit

theorem K.resCell3 {fn : Func} {p u v : Tmp} {ty : TypeId} (h : fn.results = #[.cell p ty, .tmp u, .tmp v]) (tmps : Array Value) (P : Program) (w : World) (g : Nat) (cs : Array Value)
    (hp : tmps.getD p undef = .pointer (some ⟨g, 0, none⟩)) (hld : (loadVar ty ⟨g, 0, none⟩).run P w = .ok (.agg cs) w) :
    (results fn tmps).run P w = .ok (.tuple #[.agg cs, tmps.getD u undef, tmps.getD v undef]) w := by
  have hp' : tmps[p]?.getD undef = .pointer (some ⟨g, 0, none⟩) := by simpa using hp
  simp [results, h, hp', asAddr, hld]

section
variable {o : Oper} {a : Act} {w : World} {K : Act → World → Prop} {Q : Exit → Act → World → Prop}
theorem t_nil (t g : Nat) (ho : o.op = .nilCheck (.tmp t)) (ht : a.eval (.tmp t) = .pointer (some ⟨g, 0, none⟩)) (hK : K (a.put o.dst (.pointer (some ⟨g, 0, none⟩))) w) : o.wp Try.prog a w K Q := by
  unfold Oper.wp execOp
  simp only [ho, ht]
  go_simp
  exact hK
theorem t_fldR (t g : Nat) (ho : o.op = .fieldAddr 88 (.tmp t) 0) (ht : a.eval (.tmp t) = .pointer (some ⟨g, 0, none⟩)) (hK : K (a.put o.dst (.pointer (some ⟨g, 0, none⟩))) w) : o.wp Try.prog a w K Q := by
  unfold Oper.wp execOp
  simp only [ho, ht]
  go_simp
  exact hK
theorem t_left (t : Nat) (u : Value) (ts : Array TypeId) (ho : o.op = .call { callee := .value (.func 79), args := #[.tmp t], argTypes := ts }) (ht : a.eval (.tmp t) = u)
    (h : Calls Try.prog 79 #[u] w fun e w' => ∃ v, e = .returned v ∧ K (a.put o.dst v) w') : o.wp Try.prog a w K Q := by
  unfold Oper.wp execOp
  simp only [ho, resolve, List.map_toArray, List.map_cons, List.map_nil, ht, show ∀ f, a.eval (.func f) = .func (.func f) #[] #[] from fun _ => rfl]
  go_simp
  exact h.mono fun e w' ⟨u, he, hk⟩ => by subst he; exact hk
theorem t_take (t s : Nat) (u v : Value) (ts : Array TypeId) (ho : o.op = .call { callee := .value (.func 78), args := #[.tmp t, .tmp s], argTypes := ts }) (ht : a.eval (.tmp t) = u) (hs : a.eval (.tmp s) = v)
    (h : Calls Try.prog 78 #[u, v] w fun e w' => ∃ v, e = .returned v ∧ K (a.put o.dst v) w') : o.wp Try.prog a w K Q := by
  unfold Oper.wp execOp
  simp only [ho, resolve, List.map_toArray, List.map_cons, List.map_nil, ht, hs, show ∀ f, a.eval (.func f) = .func (.func f) #[] #[] from fun _ => rfl]
  go_simp
  exact h.mono fun e w' ⟨u, he, hk⟩ => by subst he; exact hk
theorem t_const (v : Value) (ho : o.op = .assign (.const v)) (hK : K (a.put o.dst v) w) : o.wp Try.prog a w K Q := by
  unfold Oper.wp execOp
  simp only [ho, show a.eval (.const v) = v from rfl]
  go_simp
  exact hK
end

set_option maxRecDepth 100000 in
set_option maxHeartbeats 1000000 in
theorem readI_long (A : Option Addr) (n c : Nat) (bs : List UInt8) (w : World) (hl : bs.length = n) (hs : n ≤ 1048576) (hn : 1600 < n) : Calls Try.prog 38 #[.slice A n c] w (FROut bs w) := by
  have H := Lib.hid (show frc bs = 1 by simp [frc, hl, hn])
  clear hl
  have z0 := Lib.hid (K.new w (.cells #[.int .i64 0, .int .i64 0, .int .i64 0, .int .i64 0, .int .i64 0, .int .i64 0, .int .i64 0, .int .i64 0, .int .i64 0, .int .i64 0, .int .i64 0, .int .i64 0, .int .i64 0, .int .i64 0, .int .i64 0, .int .i64 0, .int .i64 0, .slice none 0 0, .slice none 0 0] 52))
  go_enter Try.func38, Try.ntmps38
  go_wp2_with (with_reducible refine storeF rfl _ _ rfl w.heap.size rfl rfl z0.out ?_)
  (try simp only [Exit.inBlock, Exit.then])
  refine bodyPost_ret (v := .tuple #[.agg #[.int .i64 0, .int .i64 0, .int .i64 0, .int .i64 0, .int .i64 0, .int .i64 0, .int .i64 0, .int .i64 0, .int .i64 0, .int .i64 0, .int .i64 0, .int .i64 0, .int .i64 0, .int .i64 0, .int .i64 0, .int .i64 0, .int .i64 0, .slice none 0 0, .slice none 0 0], .slice none 0 0, .int .i64 1]) ?_ rfl (frOut_no H.out (by omega) (K.setRow_below (Joins.below_alloc1 w _) (Nat.le_refl _) _))
  exact K.resCell3 Try.results38 _ _ _ w.heap.size _ rfl (run_loadVar_row _ _ 52 52 _ (0, 0) _ (setRow_heap _ _ _ _ _ _ z0.out) Try.underlying52 rfl info_four)

set_option maxRecDepth 100000 in
set_option maxHeartbeats 1000000 in
theorem readI_short (A : Option Addr) (n c : Nat) (bs : List UInt8) (w : World) (hl : bs.length = n) (hn : n < 20) : Calls Try.prog 38 #[.slice A n c] w (FROut bs w) := by
  have H := Lib.hid (show frc bs = 2 by simp [frc, hl, hn, show ¬ 1600 < n by omega])
  clear hl
  have z0 := Lib.hid (K.new w (.cells #[.int .i64 0, .int .i64 0, .int .i64 0, .int .i64 0, .int .i64 0, .int .i64 0, .int .i64 0, .int .i64 0, .int .i64 0, .int .i64 0, .int .i64 0, .int .i64 0, .int .i64 0, .int .i64 0, .int .i64 0, .int .i64 0, .int .i64 0, .slice none 0 0, .slice none 0 0] 52))
  go_enter Try.func38, Try.ntmps38
  go_wp2_with (with_reducible refine storeF rfl _ _ rfl w.heap.size rfl rfl z0.out ?_)
  (try simp only [Exit.inBlock, Exit.then])
  refine bodyPost_ret (v := .tuple #[.agg #[.int .i64 0, .int .i64 0, .int .i64 0, .int .i64 0, .int .i64 0, .int .i64 0, .int .i64 0, .int .i64 0, .int .i64 0, .int .i64 0, .int .i64 0, .int .i64 0, .int .i64 0, .int .i64 0, .int .i64 0, .int .i64 0, .int .i64 0, .slice none 0 0, .slice none 0 0], .slice none 0 0, .int .i64 2]) ?_ rfl (frOut_no H.out (by omega) (K.setRow_below (Joins.below_alloc1 w _) (Nat.le_refl _) _))
  exact K.resCell3 Try.results38 _ _ _ w.heap.size _ rfl (run_loadVar_row _ _ 52 52 _ (0, 0) _ (setRow_heap _ _ _ _ _ _ z0.out) Try.underlying52 rfl info_four)

set_option maxRecDepth 100000 in
set_option maxHeartbeats 2000000 in
theorem readI_no (a : Addr) (n c : Nat) (bs : List UInt8) (w : World) (k : Int) (hk : ¬ k = 0) (hr : RB w w.heap.size (some a) bs) (hl : bs.length = n) (hs : n ≤ 1600) (hn : 20 ≤ n) (hc : n ≤ c) (hf : frc bs = k)
    (H : ∀ (v : World) (g : Nat), Rp v g (some a) n c bs 0 → Calls Try.prog 77 #[.pointer (some ⟨g, 0, none⟩)] v (FoNo k g v)) : Calls Try.prog 38 #[.slice (some a) n c] w (FROut bs w) := by
  have z0 := Lib.hid (K.old (K.new w (.cells #[.int .i64 0, .int .i64 0, .int .i64 0, .int .i64 0, .int .i64 0, .int .i64 0, .int .i64 0, .int .i64 0, .int .i64 0, .int .i64 0, .int .i64 0, .int .i64 0, .int .i64 0, .int .i64 0, .int .i64 0, .int .i64 0, .int .i64 0, .slice none 0 0, .slice none 0 0] 52)) (.cells #[.slice (some a) n c, .int .i64 0] 88))
  have r0 : Hid (Rp ((w.alloc (.cells #[.int .i64 0, .int .i64 0, .int .i64 0, .int .i64 0, .int .i64 0, .int .i64 0, .int .i64 0, .int .i64 0, .int .i64 0, .int .i64 0, .int .i64 0, .int .i64 0, .int .i64 0, .int .i64 0, .int .i64 0, .int .i64 0, .int .i64 0, .slice none 0 0, .slice none 0 0] 52)).alloc (.cells #[.slice (some a) n c, .int .i64 0] 88)) (w.heap.size + 1) (some a) n c bs 0) := by
    refine Lib.hid ⟨(by repeat (first | exact K.newAt (by first | rfl | (simp; done)) | refine K.oldAt (by first | (simp; done) | (simp; omega)) ?_)), ?_, hl, by omega, hc⟩
    exact (hr.below (Joins.below_alloc2 w _ _)).more (by omega)
  have HH := Lib.hid H
  have HF := Lib.hid hf
  have HK := Lib.hid hk
  clear hr H hf hl
  go_enter Try.func38, Try.ntmps38
  go_wp2_with fail
  refine Calls.mono (HH.out _ (w.heap.size + 1) r0.out) ?_
  rintro e w1 ⟨rfl, g1⟩
  have z1 := Lib.hid (K.kept g1 z0.out (fun k hk => by cases hk; omega))
  have B1 := Lib.hid (bgrown (Joins.below_alloc2 w _ _) g1 (fun k hk => by cases hk; omega))
  clear g1
  have z2 := Lib.hid (K.old z1.out (.cells #[.int .i64 0, .int .i64 0, .int .i64 0, .int .i64 0, .int .i64 0, .int .i64 0, .int .i64 0, .int .i64 0, .int .i64 0, .int .i64 0, .int .i64 0, .int .i64 0, .int .i64 0, .int .i64 0, .int .i64 0, .int .i64 0, .int .i64 0, .slice none 0 0, .slice none 0 0] 52))
  go_wp2_with (first | (with_reducible refine storeNewF rfl _ _ rfl rfl rfl ?_) | (with_reducible refine storeF rfl _ _ rfl w.heap.size rfl rfl z2.out ?_))
  (try simp only [Exit.inBlock, Exit.then])
  refine bodyPost_ret (v := .tuple #[.agg #[.int .i64 0, .int .i64 0, .int .i64 0, .int .i64 0, .int .i64 0, .int .i64 0, .int .i64 0, .int .i64 0, .int .i64 0, .int .i64 0, .int .i64 0, .int .i64 0, .int .i64 0, .int .i64 0, .int .i64 0, .int .i64 0, .int .i64 0, .slice none 0 0, .slice none 0 0], .slice none 0 0, .int .i64 k]) ?_ rfl (frOut_no HF.out HK.out (K.setRow_below (bthen B1.out (Joins.below_alloc1 w1 _)) (Nat.le_refl _) _))
  exact K.resCell3 Try.results38 _ _ _ w.heap.size _ rfl (run_loadVar_row _ _ 52 52 _ (0, 0) _ (setRow_heap _ _ _ _ _ _ z2.out) Try.underlying52 rfl info_four)
end Go.Proofs.Ytegpaocoepcemaa

namespace Go.Proofs.Ytegpaocoepcemaa
open Go.RowKit

section
variable {P : Program} {ops : Array Oper} {Q : Exit → Act → World → Prop}

/-- What stands while the region runs. -/
structure KeptS (ops : Array Oper) (Γ : Nat → Nat → World → Value → Prop) (ch : List Nat) (I : Nat → World → Prop) (n : Nat) (a0 : Act) (listed : Array Bool) (a : Act) (w : World) : Prop where
  size : listed.size = ops.size
  len : a.tmps.size = n
  defers : a.defers = a0.defers
  keep : ∀ t, (∀ (j : Nat) o, ops[j]? = some o → o.dst ≠ some t) → a.tmps.getD t undef = a0.tmps.getD t undef
  inv : ∃ m, (∀ (i j : Nat), ch[i]? = some j → (listed.getD j false = true ↔ i < m)) ∧ m ≤ ch.length ∧ I m w ∧ (∀ (j : Nat) o d, ops[j]? = some o → o.dst = some d → listed.getD j false = true → Γ j m w (a.tmps.getD d undef))

theorem wpAny_stage {Γ : Nat → Nat → World → Value → Prop} {out ch : List Nat} {I : Nat → World → Prop} {n : Nat} {a0 : Act} (hf : formB ops n out = true) (hch : chainB ops ch = true)
    (hop : ∀ (j : Nat) o, ops[j]? = some o → ∀ m a w K, (∀ t ∈ out, a.tmps.getD t undef = a0.tmps.getD t undef) → (∀ p ∈ needOf ops j, Γ p.1 m w (a.tmps.getD p.2 undef)) → (∀ i, ch[i]? = some j → i = m) → I m w →
      (∀ v w', Γ j (nextOf ch j m) w' v → (∀ i u, i ≠ j → Γ i m w u → Γ i (nextOf ch j m) w' u) → I (nextOf ch j m) w' → K (a.put o.dst v) w') → o.wp P a w K Q)
    (hend : ∀ a w, a.tmps.size = n → a.defers = a0.defers → (∀ t ∈ out, a.tmps.getD t undef = a0.tmps.getD t undef) → (∀ t, (∀ (j : Nat) o, ops[j]? = some o → o.dst ≠ some t) → a.tmps.getD t undef = a0.tmps.getD t undef) →
      (∀ (j : Nat) o d, ops[j]? = some o → o.dst = some d → Γ j ch.length w (a.tmps.getD d undef)) → I ch.length w → Q .normal a w) :
    ∀ (fuel : Nat) (listed : Array Bool) (a : Act) (w : World), KeptS ops Γ ch I n a0 listed a w → ops.size ≤ up listed + fuel → wpAny P .any ops Q fuel listed a w := by
  have fin : ∀ (listed : Array Bool) (a : Act) (w : World), KeptS ops Γ ch I n a0 listed a w → up listed = ops.size → Q .normal a w := by
    intro listed a w hk hu
    have hall : ∀ j, j < ops.size → listed.getD j false = true := fun j hj => up_all (by rw [hu, hk.size]) (by rw [hk.size]; exact hj)
    obtain ⟨m, hm, hml, hI, hsl⟩ := hk.inv
    have hme : m = ch.length := by
      rcases Nat.lt_or_ge m ch.length with h | h
      · obtain ⟨o, ho, _⟩ := chainB_at hch (List.getElem?_eq_getElem h)
        have := (hm m _ (List.getElem?_eq_getElem h)).1 (hall _ (Array.getElem?_eq_some_iff.1 ho).1)
        omega
      · omega
    subst hme
    refine hend a w hk.len hk.defers (fun t ht => hk.keep t (fun j oj hj hdj => ((formB_at hf hj).2.2 t hdj).2.1 ht)) hk.keep (fun j o d ho hd => hsl j o d ho hd ?_) hI
    exact hall j (Array.getElem?_eq_some_iff.1 ho).1
  intro fuel
  induction fuel with
  | zero =>
    intro listed a w hk hle
    have hu : up listed = ops.size := by have := up_le listed; have := hk.size; omega
    refine ⟨?_, fin listed a w hk hu⟩
    cases hr : Region.ready .any ops listed with
    | nil => rfl
    | cons i l =>
      have hm : i ∈ Region.ready .any ops listed := by rw [hr]; simp
      obtain ⟨h0, _⟩ := mem_ready.1 hm
      have := (up_set h0).1
      have h3 := up_le (listed.setIfInBounds i true)
      have h4 : (listed.setIfInBounds i true).size = listed.size := by simp
      have := hk.size
      omega
  | succ fuel ih =>
    intro listed a w hk hle
    refine ⟨fun hr => fin listed a w hk (some_ready hf hk.size hr), fun i hi => ?_⟩
    obtain ⟨h0, o, ho, hall⟩ := mem_ready.1 hi
    obtain ⟨hu, hil⟩ := up_set h0
    obtain ⟨hlt, hg, hd⟩ := formB_at hf ho
    obtain ⟨m, hm, hml, hI, hsl⟩ := hk.inv
    have hfalse : listed.getD i false = false := by simpa [hil] using h0
    have hnow : ∀ q, ch[q]? = some i → q = m := by
      intro q hq
      have h1 : ¬ q < m := fun h => by rw [(hm q i hq).2 h] at hfalse; cases hfalse
      cases q with
      | zero => omega
      | succ q' =>
        obtain ⟨o', ho', hprev⟩ := chainB_at hch hq
        obtain rfl : o = o' := Option.some.inj (ho.symm.trans ho')
        obtain ⟨e, he, hb, hce⟩ := hprev q' rfl
        have := (hm q' e.on hce).1 (hall e he hb)
        omega
    unfold wpOp
    simp only [ho]
    rw [if_pos (by simp [Region.wanted, hg])]
    left
    refine hop i o ho m a w _ (fun t ht => hk.keep t (fun j oj hj hdj => ?_)) (fun p hp => ?_) hnow hI ?_
    · exact ((formB_at hf hj).2.2 t hdj).2.1 ht
    · obtain ⟨⟨e, he, hep, hb⟩, oj, hoj, hdj⟩ := needOf_spec ho hp
      exact hsl p.1 oj p.2 hoj hdj (by rw [← hep]; exact hall e he hb)
    · intro v w' hv hR hI'
      refine ih _ _ _ ⟨by simpa using hk.size, by rw [put_size]; exact hk.len, by rw [put_defers']; exact hk.defers, fun t ht => ?_, ⟨nextOf ch i m, ?_, ?_, hI', fun j oj d hj hdj hl => ?_⟩⟩ (by omega)
      · rw [put_other a v (ht i o ho)]
        exact hk.keep t ht
      · intro q j hq
        by_cases hji : j = i
        · subst hji
          have hqm := hnow q hq
          have hc : j ∈ ch := List.mem_of_getElem? hq
          rw [getD_set_own hil]
          simp [nextOf, hc, hqm]
        · rw [getD_set_ne (listed := listed) false (Ne.symm hji), hm q j hq]
          unfold nextOf
          split
          · rename_i hc
            obtain ⟨q', hq'⟩ := List.mem_iff_getElem?.1 (show i ∈ ch by simpa using hc)
            have h1 := hnow q' hq'
            have h2 : q ≠ m := fun e => hji (Option.some.inj ((e ▸ hq).symm.trans (h1 ▸ hq')))
            omega
          · exact Iff.rfl
      · unfold nextOf
        split
        · rename_i hc
          obtain ⟨q', hq'⟩ := List.mem_iff_getElem?.1 (show i ∈ ch by simpa using hc)
          have h1 := hnow q' hq'
          have := (List.getElem?_eq_some_iff.1 hq').1
          omega
        · exact hml
      · by_cases hji : j = i
        · subst hji
          obtain rfl : o = oj := Option.some.inj (ho.symm.trans hj)
          rw [hdj, put_own a v (hd d hdj).1 hk.len]
          exact hv
        · have hne : o.dst ≠ some d := fun e => hji ((hd d e).2.2 j oj hj hdj)
          rw [put_other a v hne]
          refine hR j _ hji (hsl j oj d hj hdj ?_)
          rw [← getD_set_ne (listed := listed) false (Ne.symm hji)]
          exact hl

theorem wp_region_stage {id : Nat} {a : Act} {w : World} (hmx : P.follows .mixedOrders = true) (Γ : Nat → Nat → World → Value → Prop) (out ch : List Nat) (I : Nat → World → Prop) (n : Nat) (hf : formB ops n out = true) (hch : chainB ops ch = true)
    (hn : a.tmps.size = n) (h0 : I 0 { w with drawn := w.drawn + 1 })
    (hop : ∀ (j : Nat) o, ops[j]? = some o → ∀ m a' w K, (∀ t ∈ out, a'.tmps.getD t undef = a.tmps.getD t undef) → (∀ p ∈ needOf ops j, Γ p.1 m w (a'.tmps.getD p.2 undef)) → (∀ i, ch[i]? = some j → i = m) → I m w →
      (∀ v w', Γ j (nextOf ch j m) w' v → (∀ i u, i ≠ j → Γ i m w u → Γ i (nextOf ch j m) w' u) → I (nextOf ch j m) w' → K (a'.put o.dst v) w') → o.wp P a' w K Q)
    (hend : ∀ a' w', a'.tmps.size = n → a'.defers = a.defers → (∀ t ∈ out, a'.tmps.getD t undef = a.tmps.getD t undef) → (∀ t, (∀ (j : Nat) o, ops[j]? = some o → o.dst ≠ some t) → a'.tmps.getD t undef = a.tmps.getD t undef) →
      (∀ (j : Nat) o d, ops[j]? = some o → o.dst = some d → Γ j ch.length w' (a'.tmps.getD d undef)) → I ch.length w' → Q .normal a' w') : (Code.region id ops true).wp P Q a w := by
  have hfl : ∀ j, (Array.replicate ops.size false).getD j false = false := by
    intro j
    simp [Array.getElem?_replicate]
    split <;> simp
  refine wp_region_any hmx (wpAny_stage (out := out) (ch := ch) (I := I) (Γ := Γ) (n := n) (a0 := a) hf hch hop hend ops.size _ a _ ⟨by simp, hn, rfl, fun _ _ => rfl, ⟨0, fun i j _ => ?_, Nat.zero_le _, h0, fun j o d _ _ hl => ?_⟩⟩ (by omega))
  · rw [hfl j]
    simp
  · rw [hfl j] at hl
    cases hl
end
end Go.Proofs.Ytegpaocoepcemaa

namespace Go.Proofs.Ytegpaocoepcemaa
set_option maxRecDepth 100000
open Go.RowKit

section
variable {o : Oper} {a : Act} {w : World} {K : Act → World → Prop} {Q : Exit → Act → World → Prop}
theorem t_fld18 (t : Nat) (g : Nat) (ho : o.op = .fieldAddr 52 (.tmp t) 10) (ht : a.eval (.tmp t) = .pointer (some ⟨g, 0, none⟩)) (hK : K (a.put o.dst (.pointer (some ⟨g, 18, none⟩))) w) : o.wp Try.prog a w K Q := by
  unfold Oper.wp execOp
  simp only [ho, ht]
  go_simp
  exact hK
theorem t_loadB (t g j : Nat) (v : Value) (ho : o.op = .load 28 (.tmp t)) (ht : a.eval (.tmp t) = .pointer (some ⟨g, j, none⟩)) (hc : w.cell? ⟨g, j, none⟩ = some v) (hK : K (a.put o.dst v) w) : o.wp Try.prog a w K Q := by
  unfold Oper.wp execOp
  simp only [ho, ht]
  go_simp
  exact hK
theorem t_assign (t : Nat) (v : Value) (ho : o.op = .assign (.tmp t)) (ht : a.eval (.tmp t) = v) (hK : K (a.put o.dst v) w) : o.wp Try.prog a w K Q := by
  unfold Oper.wp execOp
  simp only [ho, ht]
  go_simp
  exact hK
theorem t_headI (t s : Nat) (u v : Value) (ts : Array TypeId) (ho : o.op = .call { callee := .value (.func 76), args := #[.tmp t, .tmp s], argTypes := ts }) (ht : a.eval (.tmp t) = u) (hs : a.eval (.tmp s) = v)
    (h : Calls Try.prog 76 #[u, v] w fun e w' => ∃ v, e = .returned v ∧ K (a.put o.dst v) w') : o.wp Try.prog a w K Q := by
  unfold Oper.wp execOp
  simp only [ho, resolve, List.map_toArray, List.map_cons, List.map_nil, ht, hs, show ∀ f, a.eval (.func f) = .func (.func f) #[] #[] from fun _ => rfl]
  go_simp
  exact h.mono fun e w' ⟨u, he, hk⟩ => by subst he; exact hk
theorem t_append (s x : Nat) (ho : o.op = .call { callee := .builtin .append, args := #[.tmp s, .tmp x], argTypes := #[28, 28] }) (base : Nat) (v : Value) (bs : List UInt8) (hs : a.eval (.tmp s) = v) (hown : w.ownsRow base 5 1 v bs.length (cellsOf bs))
    (B : Nat) (A : Option Addr) (m c : Nat) (ds : List UInt8) (hx : a.eval (.tmp x) = .slice A m c) (hm : ds.length = m) (hr : RB w B A ds) (hn : bs.length + ds.length ≤ 67108864) (hbase : base ≤ w.heap.size)
    (h : ∀ v' w', w'.ownsRow base 5 1 v' (bs ++ ds).length (cellsOf (bs ++ ds)) → w.grownBy w' v.ownBlock → K (a.put o.dst v') w') : o.wp Try.prog a w K Q := by
  obtain ⟨v', w', hrun, h2, h3, h4⟩ := run_append_b w o.type base v bs hown B A m c ds hm hr hn hbase
  unfold Oper.wp execOp
  simp only [ho, resolve, invoke, builtin, Sem.run_bind, Sem.run_pure, Result.andThen_ok, List.map_toArray, List.map_cons, List.map_nil, hs, hx, hrun]
  exact h v' w' h2 h3
end

def FBOut (x : Fh) (os bs : List UInt8) (w : World) (e : Ending) (w' : World) : Prop := ∃ A c, e = .returned (.slice A (x.bytes os bs).length c) ∧ w'.ownsRow w.heap.size 5 1 (.slice A (x.bytes os bs).length c) (x.bytes os bs).length (cellsOf (x.bytes os bs)) ∧ Below w.heap.size w w'
theorem fbOut_no {x : Fh} {os bs : List UInt8} (h : x.ok os.length bs.length = false) {w w' : World} (hb : Below w.heap.size w w') : FBOut x os bs w (.returned (.slice none 0 0)) w' := by
  have e : x.bytes os bs = [] := by simp [Fh.bytes, h]
  unfold FBOut
  rw [e]
  exact ⟨none, 0, rfl, ⟨rfl, .inl ⟨rfl, rfl⟩⟩, hb⟩

/-- What the operations leave: L is the number of the call that makes the head, P the link of the chain at which the bytes are appended. -/
def GFB (x : Fh) (A D : Option Addr) (n c m d g base L P : Nat) (s : Int) (hd all : List UInt8) (j k : Nat) (w : World) (v : Value) : Prop :=
  if j = L then ∃ A2 c2, v = .slice A2 (20 + n) c2 ∧ (k ≤ P → w.ownsRow base 5 1 (.slice A2 (20 + n) c2) (20 + n) (cellsOf hd))
  else if j = L + 1 then v = .pointer (some ⟨g, 18, none⟩)
  else if j = L + 2 then v = .slice D m d
  else if j = L + 3 then P < k ∧ w.ownsRow base 5 1 v all.length (cellsOf all)
  else if j = L + 4 then P + 1 < k ∧ w.ownsRow base 5 1 v all.length (cellsOf all)
  else if j = L - 1 then v = .int .i64 s
  else v = .agg #[.int .i64 x.dscp, .int .i64 x.ecn, .int .i64 x.id, .int .i64 x.flags, .int .i64 x.frag, .int .i64 x.ttl, .int .i64 x.proto, .int .i64 x.src.k, .int .i64 x.src.a, .int .i64 x.src.b, .int .i64 x.src.c, .int .i64 x.src.d, .int .i64 x.dst.k, .int .i64 x.dst.a, .int .i64 x.dst.b, .int .i64 x.dst.c, .int .i64 x.dst.d, .slice A n c, .slice D m d]

theorem gfb_on {x : Fh} {A D : Option Addr} {n c m d g base L P : Nat} {s : Int} {hd all : List UInt8} {i k k' : Nat} {w w' : World} {u : Value} (hk : k' = k ∨ k' = k + 1) (hb : Below w.heap.size w w') (h : GFB x A D n c m d g base L P s hd all i k w u) : GFB x A D n c m d g base L P s hd all i k' w' u := by
  unfold GFB at *
  split
  · rename_i h1
    rw [if_pos h1] at h
    obtain ⟨A2, c2, e, o⟩ := h
    exact ⟨A2, c2, e, fun hk' => own_below (o (by omega)) hb⟩
  · rename_i h1
    rw [if_neg h1] at h
    split
    · rename_i h2; rw [if_pos h2] at h; exact h
    · rename_i h2
      rw [if_neg h2] at h
      split
      · rename_i h3; rw [if_pos h3] at h; exact h
      · rename_i h3
        rw [if_neg h3] at h
        split
        · rename_i h4; rw [if_pos h4] at h; exact ⟨by omega, own_below h.2 hb⟩
        · rename_i h4
          rw [if_neg h4] at h
          split
          · rename_i h5; rw [if_pos h5] at h; exact ⟨by omega, own_below h.2 hb⟩
          · rename_i h5; rw [if_neg h5] at h; exact h
theorem gfb_app {x : Fh} {A D : Option Addr} {n c m d g base L P : Nat} {s : Int} {hd all : List UInt8} {i : Nat} {w w' : World} {u : Value} (hi : i ≠ L + 3) (h : GFB x A D n c m d g base L P s hd all i P w u) : GFB x A D n c m d g base L P s hd all i (P + 1) w' u := by
  unfold GFB at *
  split
  · rename_i h1
    rw [if_pos h1] at h
    obtain ⟨A2, c2, e, o⟩ := h
    exact ⟨A2, c2, e, fun hk' => by omega⟩
  · rename_i h1
    rw [if_neg h1] at h
    split
    · rename_i h2; rw [if_pos h2] at h; exact h
    · rename_i h2
      rw [if_neg h2] at h
      split
      · rename_i h3; rw [if_pos h3] at h; exact h
      · rename_i h3
        rw [if_neg h3, if_neg hi] at h
        split
        · rename_i h5; rw [if_pos h5] at h; have := h.1; omega
        · rename_i h5; rw [if_neg h5] at h; exact h
theorem sum_word {x : Fh} {os : List UInt8} {n m : Nat} (hok : x.ok n m = true) (hl : os.length = n) : ¬ x.sum os m = -1 := by
  have h1 : x.sum os m = checksum (x.head 0 os m) := by simp [Fh.sum, hl, hok]
  have h2 := ((x.ok_iff n m).1 hok).2.2.2.1.1
  have h3 := comp_word (onesSum_word (bs := x.head 0 os m) (by rw [Fh.head_length]; omega))
  have h4 : isWord (checksum (x.head 0 os m)) = true := h3
  rw [isWord_iff] at h4
  omega





set_option maxRecDepth 100000 in
set_option maxHeartbeats 1000000 in
theorem fbI_no (x : Fh) (A D : Option Addr) (n c m d : Nat) (os bs : List UInt8) (w : World) (hr : RB w w.heap.size A os) (hl : os.length = n) (hm : bs.length = m) (hok : x.ok n m = false) : Calls Try.prog 36 #[.agg #[.int .i64 x.dscp, .int .i64 x.ecn, .int .i64 x.id, .int .i64 x.flags, .int .i64 x.frag, .int .i64 x.ttl, .int .i64 x.proto, .int .i64 x.src.k, .int .i64 x.src.a, .int .i64 x.src.b, .int .i64 x.src.c, .int .i64 x.src.d, .int .i64 x.dst.k, .int .i64 x.dst.a, .int .i64 x.dst.b, .int .i64 x.dst.c, .int .i64 x.dst.d, .slice A n c, .slice D m d]] w (FBOut x os bs w) := by
  have SO := Lib.hid (fun (v : World) (h : RB v v.heap.size A os) => show Calls Try.prog 75 #[.agg #[.int .i64 x.dscp, .int .i64 x.ecn, .int .i64 x.id, .int .i64 x.flags, .int .i64 x.frag, .int .i64 x.ttl, .int .i64 x.proto, .int .i64 x.src.k, .int .i64 x.src.a, .int .i64 x.src.b, .int .i64 x.src.c, .int .i64 x.src.d, .int .i64 x.dst.k, .int .i64 x.dst.a, .int .i64 x.dst.b, .int .i64 x.dst.c, .int .i64 x.dst.d, .slice A n c, .slice D m d]] v fun e w' => e = .returned (.int .i64 (-1)) ∧ Below v.heap.size v w' from (show x.sum os m = -1 by simp [Fh.sum, hl, hok]) ▸ sumIC x A D n c m d os v h hl)
  have H := Lib.hid (show x.ok os.length bs.length = false by rw [hl, hm]; exact hok)
  have HR := Lib.hid hr
  clear hok hl hm hr
  have q := Lib.hid (K.new w (.cells #[.int .i64 x.dscp, .int .i64 x.ecn, .int .i64 x.id, .int .i64 x.flags, .int .i64 x.frag, .int .i64 x.ttl, .int .i64 x.proto, .int .i64 x.src.k, .int .i64 x.src.a, .int .i64 x.src.b, .int .i64 x.src.c, .int .i64 x.src.d, .int .i64 x.dst.k, .int .i64 x.dst.a, .int .i64 x.dst.b, .int .i64 x.dst.c, .int .i64 x.dst.d, .slice A n c, .slice D m d] 52))
  go_enter Try.func36, Try.ntmps36
  go_wp2_with (with_reducible refine loadF rfl _ rfl w.heap.size rfl q.out ?_)
  refine Calls.mono (SO.out _ ((HR.out.below (Joins.below_alloc1 w _)).more (by simp))) ?_
  rintro e w1 ⟨rfl, b1⟩
  have B := Lib.hid (bthen (Joins.below_alloc1 w _) b1)
  clear b1
  go_wp2
  go_ret
  exact fbOut_no H.out B.out

set_option maxRecDepth 100000 in
set_option maxHeartbeats 2000000 in
theorem fbI_yes (x : Fh) (A D : Option Addr) (n c m d : Nat) (os bs : List UInt8) (w : World) (hr : RB w w.heap.size A os) (hl : os.length = n) (hs : RB w w.heap.size D bs) (hm : bs.length = m) (hok : x.ok n m = true) : Calls Try.prog 36 #[.agg #[.int .i64 x.dscp, .int .i64 x.ecn, .int .i64 x.id, .int .i64 x.flags, .int .i64 x.frag, .int .i64 x.ttl, .int .i64 x.proto, .int .i64 x.src.k, .int .i64 x.src.a, .int .i64 x.src.b, .int .i64 x.src.c, .int .i64 x.src.d, .int .i64 x.dst.k, .int .i64 x.dst.a, .int .i64 x.dst.b, .int .i64 x.dst.c, .int .i64 x.dst.d, .slice A n c, .slice D m d]] w (FBOut x os bs w) := by
  have hne := sum_word hok hl
  have SO := Lib.hid (fun (v : World) (h : RB v v.heap.size A os) => sumIC x A D n c m d os v h hl)
  obtain ⟨y, hy⟩ : ∃ y, x.sum os m = y := ⟨_, rfl⟩
  rw [hy] at SO hne
  have HY := Lib.hid hy
  clear hy
  have H := Lib.hid (show x.bytes os bs = x.head (x.sum os m) os m ++ bs by subst hl hm; simp only [Fh.bytes, hok, if_true])
  have EL := Lib.hid (show (x.head (x.sum os m) os m).length = 20 + n by rw [Fh.head_length, hl])
  have HO := Lib.hid hok
  have HN := Lib.hid ((x.ok_iff n m).1 hok).2.2.2
  have HR := Lib.hid hr
  have HL := Lib.hid hl
  have HS := Lib.hid hs
  have HM := Lib.hid hm
  clear hok hr hl hs hm
  have q := Lib.hid (K.new w (.cells #[.int .i64 x.dscp, .int .i64 x.ecn, .int .i64 x.id, .int .i64 x.flags, .int .i64 x.frag, .int .i64 x.ttl, .int .i64 x.proto, .int .i64 x.src.k, .int .i64 x.src.a, .int .i64 x.src.b, .int .i64 x.src.c, .int .i64 x.src.d, .int .i64 x.dst.k, .int .i64 x.dst.a, .int .i64 x.dst.b, .int .i64 x.dst.c, .int .i64 x.dst.d, .slice A n c, .slice D m d] 52))
  go_enter Try.func36, Try.ntmps36
  go_wp2_with (with_reducible refine loadF rfl _ rfl w.heap.size rfl q.out ?_)
  refine Calls.mono (SO.out _ ((HR.out.below (Joins.below_alloc1 w _)).more (by simp))) ?_
  rintro e w1 ⟨rfl, b1⟩
  have q1 := Lib.hid (K.below b1 q.out)
  have B := Lib.hid (bthen (Joins.below_alloc1 w _) b1)
  clear b1
  go_wp2_with fail
  refine wp_region_stage (by kernel_rfl) (GFB x A D n c m d w.heap.size (w.heap.size + 1) 2 1 (x.sum os m) (x.head (x.sum os m) os m) (x.head (x.sum os m) os m ++ bs)) [1, 3] [2, 5, 6] (fun _ v => Below w.heap.size w v ∧ v.heap[w.heap.size]? = some (.cells #[.int .i64 x.dscp, .int .i64 x.ecn, .int .i64 x.id, .int .i64 x.flags, .int .i64 x.frag, .int .i64 x.ttl, .int .i64 x.proto, .int .i64 x.src.k, .int .i64 x.src.a, .int .i64 x.src.b, .int .i64 x.src.c, .int .i64 x.src.d, .int .i64 x.dst.k, .int .i64 x.dst.a, .int .i64 x.dst.b, .int .i64 x.dst.c, .int .i64 x.dst.d, .slice A n c, .slice D m d] 52 (0, 0))) 14 (by kernel_rfl) (by kernel_rfl) rfl ⟨⟨B.out.os, B.out.tape, B.out.output, B.out.size, B.out.block⟩, q1.out⟩ ?_ ?_
  · intro j o ho k a' v K' hx hnd hk hI hK
    obtain ⟨hB, hq⟩ := id hI
    have up : ∀ {v' : World} (k' : Nat) (hk' : k' = k ∨ k' = k + 1), Below v.heap.size v v' → ∀ i u, i ≠ j → (GFB x A D n c m d w.heap.size (w.heap.size + 1) 2 1 (x.sum os m) (x.head (x.sum os m) os m) (x.head (x.sum os m) os m ++ bs)) i k v u → (GFB x A D n c m d w.heap.size (w.heap.size + 1) 2 1 (x.sum os m) (x.head (x.sum os m) os m) (x.head (x.sum os m) os m ++ bs)) i k' v' u := fun k' hk' hb i u _ h => gfb_on hk' hb h
    match j, ho with
    | 0, ho =>
      obtain rfl := Option.some.inj ho
      exact wp_load_row 52 _ rfl w.heap.size (out_of hx 1 (by simp) rfl) _ _ (0, 0) _ hq Try.underlying52 rfl info_four (hK _ _ rfl (up _ (.inl rfl) (Below.refl _ _)) hI)
    | 1, ho =>
      obtain rfl := Option.some.inj ho
      have hy : a'.eval (.tmp 3) = .int .i64 (x.sum os m) := by rw [HY.out]; exact out_of hx 3 (by simp) rfl
      exact s_move 3 _ rfl hy (hK _ _ rfl (up _ (.inl rfl) (Below.refl _ _)) hI)
    | 2, ho =>
      obtain rfl := Option.some.inj ho
      have h1 : a'.eval (.tmp 8) = .agg #[.int .i64 x.dscp, .int .i64 x.ecn, .int .i64 x.id, .int .i64 x.flags, .int .i64 x.frag, .int .i64 x.ttl, .int .i64 x.proto, .int .i64 x.src.k, .int .i64 x.src.a, .int .i64 x.src.b, .int .i64 x.src.c, .int .i64 x.src.d, .int .i64 x.dst.k, .int .i64 x.dst.a, .int .i64 x.dst.b, .int .i64 x.dst.c, .int .i64 x.dst.d, .slice A n c, .slice D m d] := (need_of (Γ := fun j => (GFB x A D n c m d w.heap.size (w.heap.size + 1) 2 1 (x.sum os m) (x.head (x.sum os m) os m) (x.head (x.sum os m) os m ++ bs)) j k) (w := v) hnd 0 8 (by kernel_rfl) :)
      have h2 : a'.eval (.tmp 9) = .int .i64 (x.sum os m) := (need_of (Γ := fun j => (GFB x A D n c m d w.heap.size (w.heap.size + 1) 2 1 (x.sum os m) (x.head (x.sum os m) os m) (x.head (x.sum os m) os m ++ bs)) j k) (w := v) hnd 1 9 (by kernel_rfl) :)
      refine t_headI _ _ _ _ _ rfl h1 h2 ((headIC x A D n c m d os (x.sum os m) v ((HR.out.below hB).more hB.size) HL.out HO.out).mono ?_)
      rintro e' v' ⟨A2, c2, rfl, o2, b6⟩
      exact ⟨_, rfl, hK _ _ ⟨A2, c2, rfl, fun _ => own_base o2 (K.lt hq)⟩ (up _ (.inr rfl) b6) ⟨bthen hB b6, K.below b6 hq⟩⟩
    | 3, ho =>
      obtain rfl := Option.some.inj ho
      exact t_fld18 _ _ rfl (out_of hx 1 (by simp) rfl) (hK _ _ rfl (up _ (.inl rfl) (Below.refl _ _)) hI)
    | 4, ho =>
      obtain rfl := Option.some.inj ho
      have h1 : a'.eval (.tmp 11) = .pointer (some ⟨w.heap.size, 18, none⟩) := (need_of (Γ := fun j => (GFB x A D n c m d w.heap.size (w.heap.size + 1) 2 1 (x.sum os m) (x.head (x.sum os m) os m) (x.head (x.sum os m) os m ++ bs)) j k) (w := v) hnd 3 11 (by kernel_rfl) :)
      exact t_loadB _ _ _ _ rfl h1 (K.cell hq 18 _ rfl) (hK _ _ rfl (up _ (.inl rfl) (Below.refl _ _)) hI)
    | 5, ho =>
      obtain rfl := Option.some.inj ho
      have hk2 : 1 = k := hk 1 rfl
      obtain ⟨A2, c2, h1, h3⟩ : ∃ A2 c2, a'.eval (.tmp 10) = .slice A2 (20 + n) c2 ∧ (k ≤ 1 → v.ownsRow (w.heap.size + 1) 5 1 (.slice A2 (20 + n) c2) (20 + n) (cellsOf (x.head (x.sum os m) os m))) := (need_of (Γ := fun j => (GFB x A D n c m d w.heap.size (w.heap.size + 1) 2 1 (x.sum os m) (x.head (x.sum os m) os m) (x.head (x.sum os m) os m ++ bs)) j k) (w := v) hnd 2 10 (by kernel_rfl) :)
      have h2 : a'.eval (.tmp 12) = .slice D m d := (need_of (Γ := fun j => (GFB x A D n c m d w.heap.size (w.heap.size + 1) 2 1 (x.sum os m) (x.head (x.sum os m) os m) (x.head (x.sum os m) os m ++ bs)) j k) (w := v) hnd 4 12 (by kernel_rfl) :)
      have h4 := h3 (by omega)
      refine t_append _ _ rfl (w.heap.size + 1) _ (x.head (x.sum os m) os m) h1 (by rw [EL.out]; exact h4) v.heap.size D m d bs h2 HM.out ((HS.out.below hB).more hB.size) (by rw [EL.out, HM.out]; have := HN.out; omega) (K.lt hq) ?_
      intro v' w' o6 g6
      subst hk2
      exact hK _ _ ⟨by decide, o6⟩ (fun i u hi h => gfb_app hi h) ⟨bgrown hB g6 (fun k' hk' => by have := (h4.lt k' hk').1; omega), K.kept g6 hq (fun k' hk' => by have := (h4.lt k' hk').1; omega)⟩
    | 6, ho =>
      obtain rfl := Option.some.inj ho
      have hk2 := hk (1 + 1) rfl
      have h1 : v.ownsRow (w.heap.size + 1) 5 1 (a'.eval (.tmp 13)) (x.head (x.sum os m) os m ++ bs).length (cellsOf (x.head (x.sum os m) os m ++ bs)) := And.right (need_of (Γ := fun j => (GFB x A D n c m d w.heap.size (w.heap.size + 1) 2 1 (x.sum os m) (x.head (x.sum os m) os m) (x.head (x.sum os m) os m ++ bs)) j k) (w := v) hnd 5 13 (by kernel_rfl) :)
      exact t_assign _ _ rfl rfl (hK _ _ ⟨by show 1 + 1 < k + 1; omega, h1⟩ (up _ (.inr rfl) (Below.refl _ _)) hI)
    | j + 7, ho => simp at ho
  · intro a' w' hsz hdf hout hrest hG hI
    have o2 : w'.ownsRow (w.heap.size + 1) 5 1 (a'.tmps.getD 2 undef) (x.head (x.sum os m) os m ++ bs).length (cellsOf (x.head (x.sum os m) os m ++ bs)) := And.right (hG 6 _ 2 rfl rfl)
    have B2 := Lib.hid hI.1
    rw [← H.out] at o2
    obtain ⟨A7, c7, h7⟩ := own_form o2
    rw [h7] at o2
    have O2 := Lib.hid (own_base o2 (Nat.le_succ _))
    have D0 := Lib.hid hdf
    have H7 := Lib.hid h7
    clear hout hrest hG o2 h7 hsz hdf
    go_wp2
    (try simp only [Exit.inBlock, Exit.then])
    refine bodyPost_ret (v := .slice A7 (x.bytes os bs).length c7) ?_ D0.out ⟨A7, c7, rfl, O2.out, B2.out⟩
    rw [results_tmp Try.results36, H7.out]

theorem fbI2 (x : Fh) (A D : Option Addr) (n c m d : Nat) (os bs ds : List UInt8) (L : Nat) (w : World) (hr : RB w w.heap.size A os) (hl : os.length = n) (hs : RB w w.heap.size D bs) (hm : bs.length = m) (h1 : x.bytes os bs = ds) (h2 : ds.length = L) : Calls Try.prog 36 #[.agg #[.int .i64 x.dscp, .int .i64 x.ecn, .int .i64 x.id, .int .i64 x.flags, .int .i64 x.frag, .int .i64 x.ttl, .int .i64 x.proto, .int .i64 x.src.k, .int .i64 x.src.a, .int .i64 x.src.b, .int .i64 x.src.c, .int .i64 x.src.d, .int .i64 x.dst.k, .int .i64 x.dst.a, .int .i64 x.dst.b, .int .i64 x.dst.c, .int .i64 x.dst.d, .slice A n c, .slice D m d]] w (TwoOut ds L w) := by
  subst h1 h2
  cases hok : x.ok n m
  · exact fbI_no x A D n c m d os bs w hr hl hm hok
  · exact fbI_yes x A D n c m d os bs w hr hl hs hm hok
end Go.Proofs.Ytegpaocoepcemaa

namespace Go.Proofs.Ytegpaocoepcemaa
set_option maxRecDepth 100000
open Go.RowKit

/-- What the operations of the last region leave. -/
def GRd (x : Fh) (A8 D9 : Option Addr) (p c8 q d9 g rl base : Nat) (rs : List UInt8) (j : Nat) (w : World) (v : Value) : Prop :=
  if j = 0 then v = .agg #[.int .i64 x.dscp, .int .i64 x.ecn, .int .i64 x.id, .int .i64 x.flags, .int .i64 x.frag, .int .i64 x.ttl, .int .i64 x.proto, .int .i64 x.src.k, .int .i64 x.src.a, .int .i64 x.src.b, .int .i64 x.src.c, .int .i64 x.src.d, .int .i64 x.dst.k, .int .i64 x.dst.a, .int .i64 x.dst.b, .int .i64 x.dst.c, .int .i64 x.dst.d, .slice A8 p c8, .slice D9 q d9]
  else if j = 7 then v = .int .i64 (rl : Int)
  else if j = 8 ∨ j = 10 then ∃ E k, v = .slice E rl k ∧ w.ownsRow base 5 1 (.slice E rl k) rl (cellsOf rs)
  else if j = 11 then v = .int .i64 0
  else if j = 9 then True
  else v = .pointer (some ⟨g, 0, none⟩)
def ROwn (rl base : Nat) (rs : List UInt8) (w w' : World) : Prop := ∀ E k, w.ownsRow base 5 1 (.slice E rl k) rl (cellsOf rs) → w'.ownsRow base 5 1 (.slice E rl k) rl (cellsOf rs)
theorem gRd_on {x : Fh} {A8 D9 : Option Addr} {p c8 q d9 g rl base : Nat} {rs : List UInt8} (j : Nat) (w w' : World) (v : Value) (h : ROwn rl base rs w w') (hv : GRd x A8 D9 p c8 q d9 g rl base rs j w v) : GRd x A8 D9 p c8 q d9 g rl base rs j w' v := by
  unfold GRd at *
  split
  · rename_i h0; rw [if_pos h0] at hv; exact hv
  · rename_i h0
    rw [if_neg h0] at hv
    split
    · rename_i h1; rw [if_pos h1] at hv; exact hv
    · rename_i h1
      rw [if_neg h1] at hv
      split
      · rename_i h2
        rw [if_pos h2] at hv
        obtain ⟨E, k, e, o⟩ := hv
        exact ⟨E, k, e, h E k o⟩
      · rename_i h2
        rw [if_neg h2] at hv
        exact hv
/-- What stands while the last region runs: m links of its chain are done. -/
structure IRd (x : Fh) (A8 D9 : Option Addr) (p c8 q d9 : Nat) (os ds : List UInt8) (g b6 r t : Nat) (a : Addr) (n c : Nat) (bs : List UInt8) (W : World) (m : Nat) (w : World) : Prop where
  below : Below W.heap.size W w
  row : w.heap[b6]? = some (.cells #[.int .i64 x.dscp, .int .i64 x.ecn, .int .i64 x.id, .int .i64 x.flags, .int .i64 x.frag, .int .i64 x.ttl, .int .i64 x.proto, .int .i64 x.src.k, .int .i64 x.src.a, .int .i64 x.src.b, .int .i64 x.src.c, .int .i64 x.src.d, .int .i64 x.dst.k, .int .i64 x.dst.a, .int .i64 x.dst.b, .int .i64 x.dst.c, .int .i64 x.dst.d, .slice A8 p c8, .slice D9 q d9] 52 (0, 0))
  rd : m ≤ 1 → Rp w g (some a) n c bs t
  ownA : w.ownsRow (W.heap.size + 2) 5 1 (.slice A8 p c8) p (cellsOf os)
  ownD : w.ownsRow (W.heap.size + 2) 5 1 (.slice D9 q d9) q (cellsOf ds)
  res : m ≤ 2 → w.heap[r]? = some (.cells #[.int .i64 0, .int .i64 0, .int .i64 0, .int .i64 0, .int .i64 0, .int .i64 0, .int .i64 0, .int .i64 0, .int .i64 0, .int .i64 0, .int .i64 0, .int .i64 0, .int .i64 0, .int .i64 0, .int .i64 0, .int .i64 0, .int .i64 0, .slice none 0 0, .slice none 0 0] 52 (0, 0))
  done : 3 ≤ m → w.heap[r]? = some (.cells #[.int .i64 x.dscp, .int .i64 x.ecn, .int .i64 x.id, .int .i64 x.flags, .int .i64 x.frag, .int .i64 x.ttl, .int .i64 x.proto, .int .i64 x.src.k, .int .i64 x.src.a, .int .i64 x.src.b, .int .i64 x.src.c, .int .i64 x.src.d, .int .i64 x.dst.k, .int .i64 x.dst.a, .int .i64 x.dst.b, .int .i64 x.dst.c, .int .i64 x.dst.d, .slice A8 p c8, .slice D9 q d9] 52 (0, 0))

set_option maxRecDepth 100000 in
set_option maxHeartbeats 4000000 in
theorem readI_yes (a : Addr) (n c : Nat) (bs : List UInt8) (w : World) (hr : RB w w.heap.size (some a) bs) (hl : bs.length = n) (hs : n ≤ 1600) (hn : 20 ≤ n) (hc : n ≤ c) (hf : frc bs = 0)
    (x : Fh) (os ds rs : List UInt8) (p q t rl : Nat) (ex : fx0 bs = x) (eo : fo0 bs = os) (ed : fb0 bs = ds) (er : bs.drop (num bs 2 2) = rs) (lo : os.length = p) (ld : ds.length = q) (lr : rs.length = rl) (et : num bs 2 2 = t) (etn : t + rl = n)
    (H : ∀ (v : World) (g : Nat), Rp v g (some a) n c bs 0 → Calls Try.prog 77 #[.pointer (some ⟨g, 0, none⟩)] v (FoYes x os ds p q t g a n c bs v)) : Calls Try.prog 38 #[.slice (some a) n c] w (FROut bs w) := by
  have z0 := Lib.hid (K.old (K.new w (.cells #[.int .i64 0, .int .i64 0, .int .i64 0, .int .i64 0, .int .i64 0, .int .i64 0, .int .i64 0, .int .i64 0, .int .i64 0, .int .i64 0, .int .i64 0, .int .i64 0, .int .i64 0, .int .i64 0, .int .i64 0, .int .i64 0, .int .i64 0, .slice none 0 0, .slice none 0 0] 52)) (.cells #[.slice (some a) n c, .int .i64 0] 88))
  have r0 : Hid (Rp ((w.alloc (.cells #[.int .i64 0, .int .i64 0, .int .i64 0, .int .i64 0, .int .i64 0, .int .i64 0, .int .i64 0, .int .i64 0, .int .i64 0, .int .i64 0, .int .i64 0, .int .i64 0, .int .i64 0, .int .i64 0, .int .i64 0, .int .i64 0, .int .i64 0, .slice none 0 0, .slice none 0 0] 52)).alloc (.cells #[.slice (some a) n c, .int .i64 0] 88)) (w.heap.size + 1) (some a) n c bs 0) := by
    refine Lib.hid ⟨(by repeat (first | exact K.newAt (by first | rfl | (simp; done)) | refine K.oldAt (by first | (simp; done) | (simp; omega)) ?_)), ?_, hl, by omega, hc⟩
    exact (hr.below (Joins.below_alloc2 w _ _)).more (by omega)
  have HH := Lib.hid H
  have FIN := Lib.hid (fun (w' : World) (A D E : Option Addr) (c d g : Nat) oA oD oE h1 h2 h3 hb => frOut_yes (w := w) (w' := w') (A := A) (D := D) (E := E) (c := c) (d := d) (g := g) hf ex eo ed er lo ld lr oA oD oE h1 h2 h3 hb)
  have ER := Lib.hid (show (bs.drop t).take rl = rs by rw [← et, er]; exact List.take_of_length_le (by omega))
  have HT := Lib.hid etn
  clear hr H hf hl ex eo ed er lo ld lr et etn
  go_enter Try.func38, Try.ntmps38
  go_wp2_with fail
  refine Calls.mono (HH.out _ (w.heap.size + 1) r0.out) ?_
  rintro e w1 ⟨A8, c8, D9, d9, rfl, o1, p1, ap, r1, g1⟩
  have z1 := Lib.hid (K.kept g1 z0.out (fun k hk => by cases hk; omega))
  have B1 := Lib.hid (bgrown (Joins.below_alloc2 w _ _) g1 (fun k hk => by cases hk; omega))
  have O1 : Hid (w1.ownsRow (w.heap.size + 2) 5 1 (.slice A8 p c8) p (cellsOf os)) := Lib.hid (own_base o1 (by simp))
  have P1 : Hid (w1.ownsRow (w.heap.size + 2) 5 1 (.slice D9 q d9) q (cellsOf ds)) := Lib.hid (own_base p1 (by simp))
  have LA := Lib.hid o1.lt
  have LD := Lib.hid p1.lt
  have AP := Lib.hid ap
  have R1 := Lib.hid r1
  have lw := B1.out.size
  have lg := r1.lt
  clear g1 o1 p1 ap r1
  have I0 : Hid (IRd x A8 D9 p c8 q d9 os ds (w.heap.size + 1) w1.heap.size w.heap.size t a n c bs w 0 (w1.alloc (.cells #[.int .i64 x.dscp, .int .i64 x.ecn, .int .i64 x.id, .int .i64 x.flags, .int .i64 x.frag, .int .i64 x.ttl, .int .i64 x.proto, .int .i64 x.src.k, .int .i64 x.src.a, .int .i64 x.src.b, .int .i64 x.src.c, .int .i64 x.src.d, .int .i64 x.dst.k, .int .i64 x.dst.a, .int .i64 x.dst.b, .int .i64 x.dst.c, .int .i64 x.dst.d, .slice A8 p c8, .slice D9 q d9] 52)).drew) := Lib.hid
    ⟨⟨B1.out.os, B1.out.tape, B1.out.output, by have := B1.out.size; show _ ≤ (w1.alloc _).heap.size; simp; omega, fun k hk => (Below.heap_alloc w1 _ k (by omega)).trans (B1.out.block k hk)⟩, K.new w1 _, fun _ => (R1.out.below (Joins.below_alloc1 w1 _)).drewN 1, O1.out.alloc _, P1.out.alloc _, fun _ => K.old z1.out _, fun h => by omega⟩
  go_wp2_with (with_reducible refine storeNewF rfl _ _ rfl rfl rfl ?_)
  refine wp_region_chain (by kernel_rfl) (GRd x A8 D9 p c8 q d9 (w.heap.size + 1) rl (w1.heap.size + 1) rs) [2, 5, 6] [7, 8, 9, 10, 11] (IRd x A8 D9 p c8 q d9 os ds (w.heap.size + 1) w1.heap.size w.heap.size t a n c bs w) (ROwn rl (w1.heap.size + 1) rs) 38 (by kernel_rfl) (by kernel_rfl) rfl I0.out (fun j v v' u hb hv => gRd_on j v v' u hb hv) ?_ ?_
  · intro j o ho m a' v K' hx hnd hm hI hK
    have idR : ROwn rl (w1.heap.size + 1) rs v v := fun _ _ h => h
    match j, ho with
    | 0, ho =>
      obtain rfl := Option.some.inj ho
      exact wp_load_row 52 _ rfl w1.heap.size (out_of hx 6 (by simp) rfl) _ _ (0, 0) _ hI.row Try.underlying52 rfl info_four (hK _ _ rfl idR hI)
    | 1, ho =>
      obtain rfl := Option.some.inj ho
      exact s_move 5 _ rfl (out_of hx 5 (by simp) rfl) (hK _ _ rfl idR hI)
    | 2, ho =>
      obtain rfl := Option.some.inj ho
      have h1 : a'.eval (.tmp 30) = .pointer (some ⟨w.heap.size + 1, 0, none⟩) := (need_of (Γ := GRd x A8 D9 p c8 q d9 (w.heap.size + 1) rl (w1.heap.size + 1) rs) (w := v) hnd 1 30 (by kernel_rfl) :)
      exact t_nil _ _ rfl h1 (hK _ _ rfl idR hI)
    | 3, ho =>
      obtain rfl := Option.some.inj ho
      have h1 : a'.eval (.tmp 31) = .pointer (some ⟨w.heap.size + 1, 0, none⟩) := (need_of (Γ := GRd x A8 D9 p c8 q d9 (w.heap.size + 1) rl (w1.heap.size + 1) rs) (w := v) hnd 2 31 (by kernel_rfl) :)
      exact t_fldR _ _ rfl h1 (hK _ _ rfl idR hI)
    | 4, ho =>
      obtain rfl := Option.some.inj ho
      exact s_move 5 _ rfl (out_of hx 5 (by simp) rfl) (hK _ _ rfl idR hI)
    | 5, ho =>
      obtain rfl := Option.some.inj ho
      have h1 : a'.eval (.tmp 33) = .pointer (some ⟨w.heap.size + 1, 0, none⟩) := (need_of (Γ := GRd x A8 D9 p c8 q d9 (w.heap.size + 1) rl (w1.heap.size + 1) rs) (w := v) hnd 4 33 (by kernel_rfl) :)
      exact t_nil _ _ rfl h1 (hK _ _ rfl idR hI)
    | 6, ho =>
      obtain rfl := Option.some.inj ho
      have h1 : a'.eval (.tmp 34) = .pointer (some ⟨w.heap.size + 1, 0, none⟩) := (need_of (Γ := GRd x A8 D9 p c8 q d9 (w.heap.size + 1) rl (w1.heap.size + 1) rs) (w := v) hnd 5 34 (by kernel_rfl) :)
      exact t_fldR _ _ rfl h1 (hK _ _ rfl idR hI)
    | 7, ho =>
      obtain rfl := Option.some.inj ho
      have h1 : a'.eval (.tmp 35) = .pointer (some ⟨w.heap.size + 1, 0, none⟩) := (need_of (Γ := GRd x A8 D9 p c8 q d9 (w.heap.size + 1) rl (w1.heap.size + 1) rs) (w := v) hnd 6 35 (by kernel_rfl) :)
      obtain rfl : 0 = m := hm 0 rfl
      refine t_left _ _ _ rfl h1 ((leftP v (w.heap.size + 1) (some a) n c bs t rl (hI.rd (by omega)) HT.out).mono ?_)
      rintro e' v' ⟨rfl, b⟩
      exact ⟨_, rfl, hK _ _ rfl (fun _ _ h => own_below h b) ⟨bthen hI.below b, K.below b hI.row, fun _ => (hI.rd (by omega)).below b, own_below hI.ownA b, own_below hI.ownD b, fun _ => K.below b (hI.res (by omega)), fun h => absurd h (by decide)⟩⟩
    | 8, ho =>
      obtain rfl := Option.some.inj ho
      have h1 : a'.eval (.tmp 32) = .pointer (some ⟨w.heap.size + 1, 0, none⟩) := (need_of (Γ := GRd x A8 D9 p c8 q d9 (w.heap.size + 1) rl (w1.heap.size + 1) rs) (w := v) hnd 3 32 (by kernel_rfl) :)
      have h2 : a'.eval (.tmp 36) = .int .i64 (rl : Int) := (need_of (Γ := GRd x A8 D9 p c8 q d9 (w.heap.size + 1) rl (w1.heap.size + 1) rs) (w := v) hnd 7 36 (by kernel_rfl) :)
      obtain rfl : 1 = m := hm 1 rfl
      have lv := K.lt hI.row
      refine t_take _ _ _ _ _ rfl h1 h2 ((takeP v (w.heap.size + 1) a n c bs t rl (hI.rd (by omega)) (by have := HT.out; omega)).mono ?_)
      rintro e' v' ⟨E, k, rfl, o8, r8, g8⟩
      rw [ER.out] at o8
      exact ⟨_, rfl, hK _ _ ⟨E, k, rfl, own_base o8 lv⟩ (fun _ _ h => own_grown h g8 (fun k hk e => by have := (h.lt k hk).1; injection e with e; omega)) ⟨bgrown hI.below g8 (fun k hk => by cases hk; omega), K.kept g8 hI.row (fun k hk => by cases hk; omega), fun h => absurd h (by decide), own_grown hI.ownA g8 (fun k hk e => by have := (hI.ownA.lt k hk).1; injection e with e; omega), own_grown hI.ownD g8 (fun k hk e => by have := (hI.ownD.lt k hk).1; injection e with e; omega), fun _ => K.kept g8 (hI.res (by omega)) (fun k hk => by cases hk; omega), fun h => absurd h (by decide)⟩⟩
    | 9, ho =>
      obtain rfl := Option.some.inj ho
      have h1 : a'.eval (.tmp 29) = .agg #[.int .i64 x.dscp, .int .i64 x.ecn, .int .i64 x.id, .int .i64 x.flags, .int .i64 x.frag, .int .i64 x.ttl, .int .i64 x.proto, .int .i64 x.src.k, .int .i64 x.src.a, .int .i64 x.src.b, .int .i64 x.src.c, .int .i64 x.src.d, .int .i64 x.dst.k, .int .i64 x.dst.a, .int .i64 x.dst.b, .int .i64 x.dst.c, .int .i64 x.dst.d, .slice A8 p c8, .slice D9 q d9] := (need_of (Γ := GRd x A8 D9 p c8 q d9 (w.heap.size + 1) rl (w1.heap.size + 1) rs) (w := v) hnd 0 29 (by kernel_rfl) :)
      obtain rfl : 2 = m := hm 2 rfl
      refine wp_store_row 52 _ _ rfl w.heap.size _ (out_of hx 2 (by simp) rfl) h1 _ _ (hI.res (by omega)) info_four rfl (by simp [Value.oneCell']) (hK _ _ trivial (fun _ _ h => K.setRow_own _ h (by omega)) ⟨K.setRow_below hI.below (Nat.le_refl _) _, by rw [setRow_other _ _ _ _ (by omega)]; exact hI.row, fun h => absurd h (by decide), K.setRow_own _ hI.ownA (by omega), K.setRow_own _ hI.ownD (by omega), fun h => absurd h (by decide), fun _ => setRow_heap _ _ _ _ _ _ (hI.res (by omega))⟩)
    | 10, ho =>
      obtain rfl := Option.some.inj ho
      obtain ⟨E, k, h1, h2⟩ : ∃ E k, a'.eval (.tmp 37) = .slice E rl k ∧ v.ownsRow (w1.heap.size + 1) 5 1 (.slice E rl k) rl (cellsOf rs) := (need_of (Γ := GRd x A8 D9 p c8 q d9 (w.heap.size + 1) rl (w1.heap.size + 1) rs) (w := v) hnd 8 37 (by kernel_rfl) :)
      obtain rfl : 3 = m := hm 3 rfl
      exact t_assign _ _ rfl h1 (hK _ _ ⟨E, k, rfl, h2⟩ idR ⟨hI.below, hI.row, fun h => absurd h (by decide), hI.ownA, hI.ownD, fun h => absurd h (by decide), fun _ => hI.done (by omega)⟩)
    | 11, ho =>
      obtain rfl := Option.some.inj ho
      obtain rfl : 4 = m := hm 4 rfl
      exact t_const _ rfl (hK _ _ rfl idR ⟨hI.below, hI.row, fun h => absurd h (by decide), hI.ownA, hI.ownD, fun h => absurd h (by decide), fun _ => hI.done (by omega)⟩)
    | j + 12, ho => simp at ho
  · intro a' w' hsz hdf hout hrest hG hI
    have g2 : a'.tmps.getD 2 undef = .pointer (some ⟨w.heap.size, 0, none⟩) := hout 2 (by simp)
    obtain ⟨E, k, g3, oE⟩ : ∃ E k, a'.tmps.getD 3 undef = .slice E rl k ∧ w'.ownsRow (w1.heap.size + 1) 5 1 (.slice E rl k) rl (cellsOf rs) := hG 10 _ 3 rfl rfl
    have g4 : a'.tmps.getD 4 undef = .int .i64 0 := hG 11 _ 4 rfl rfl
    have D0 := Lib.hid (And.intro hdf (And.intro g2 (And.intro g3 g4)))
    have HI := Lib.hid (And.intro hI oE)
    clear hout hrest hG oE hsz hdf g2 g3 g4 hI
    go_wp2
    (try simp only [Exit.inBlock, Exit.then])
    obtain ⟨hI, oE⟩ := HI.out
    refine bodyPost_ret (v := .tuple #[.agg #[.int .i64 x.dscp, .int .i64 x.ecn, .int .i64 x.id, .int .i64 x.flags, .int .i64 x.frag, .int .i64 x.ttl, .int .i64 x.proto, .int .i64 x.src.k, .int .i64 x.src.a, .int .i64 x.src.b, .int .i64 x.src.c, .int .i64 x.src.d, .int .i64 x.dst.k, .int .i64 x.dst.a, .int .i64 x.dst.b, .int .i64 x.dst.c, .int .i64 x.dst.d, .slice A8 p c8, .slice D9 q d9], .slice E rl k, .int .i64 0]) ?_ D0.out.1 (FIN.out _ _ _ _ _ _ _ (own_base hI.ownA (by omega)) (own_base hI.ownD (by omega)) (own_base oE (by omega)) AP.out (fun k h1 h2 => by have := LA.out k h1; have := (oE.lt k h2).1; omega) (fun k h1 h2 => by have := LD.out k h1; have := (oE.lt k h2).1; omega) hI.below)
    rw [K.resCell3 Try.results38 _ _ _ w.heap.size _ D0.out.2.1 (run_loadVar_row _ _ 52 52 _ (0, 0) _ (hI.done (by decide)) Try.underlying52 rfl info_four), D0.out.2.2.1, D0.out.2.2.2]

theorem implFourRead (A : Option Addr) (n c : Nat) (bs : List UInt8) (w : World) (hr : RB w w.heap.size A bs) (hl : bs.length = n) (hs : n ≤ 1048576) (hc : n ≤ c) : Calls Try.prog 38 #[.slice A n c] w (FROut bs w) := by
  by_cases h1 : 1600 < n
  · exact readI_long A n c bs w hl hs h1
  · by_cases h2 : n < 20
    · exact readI_short A n c bs w hl h2
    · obtain ⟨gg, oo, rfl, _, _⟩ := hr.at_ (k := 0) (by omega)
      have hb0 := num_lt1 bs 0
      have frc1 : frc bs = if num bs 0 1 / 16 ≠ 4 then 3 else if fHead bs < 20 ∨ bs.length < fHead bs then 4 else if num bs 2 2 < fHead bs ∨ 1500 < num bs 2 2 ∨ bs.length < num bs 2 2 then 5 else if (num bs 10 2 : Int) ≠ (fx0 bs).sum (fo0 bs) (num bs 2 2 - fHead bs) then 6 else 0 := by
        unfold frc
        rw [if_neg (by omega), if_neg (by omega)]
      by_cases h3 : num bs 0 1 / 16 = 4
      · rw [if_neg (by omega)] at frc1
        by_cases h4 : fHead bs < 20 ∨ bs.length < fHead bs
        · rw [if_pos h4] at frc1
          exact readI_no _ n c bs w 4 (by omega) hr hl (by omega) (by omega) hc frc1 (fun v g h => fourOf_4 v g _ n c bs _ h (by omega) rfl (by omega) _ rfl (by unfold fHead at h4; omega))
        · rw [if_neg h4] at frc1
          by_cases h5 : num bs 2 2 < fHead bs ∨ 1500 < num bs 2 2 ∨ bs.length < num bs 2 2
          · rw [if_pos h5] at frc1
            exact readI_no _ n c bs w 5 (by omega) hr hl (by omega) (by omega) hc frc1 (fun v g h => fourOf_5 v g _ n c bs _ h (by omega) rfl (by omega) (fHead bs) rfl (by omega) _ _ rfl rfl (by omega))
          · rw [if_neg h5] at frc1
            have l1 : (fo0 bs).length = fHead bs - 20 := by unfold fo0; simp; omega
            have l2 : (fb0 bs).length = num bs 2 2 - fHead bs := by unfold fb0; simp; omega
            by_cases h6 : (num bs 10 2 : Int) = (fx0 bs).sum (fo0 bs) (num bs 2 2 - fHead bs)
            · rw [if_neg (by simpa using h6)] at frc1
              exact readI_yes _ n c bs w hr hl (by omega) (by omega) hc frc1 (fx0 bs) (fo0 bs) (fb0 bs) (bs.drop (num bs 2 2)) (fHead bs - 20) (num bs 2 2 - fHead bs) (num bs 2 2) (n - num bs 2 2) rfl rfl rfl rfl l1 l2 (by simp; omega) rfl (by omega)
                (fun v g h => fourOf_0 v g _ n c bs _ h (by omega) rfl (by omega) (fHead bs) rfl (by omega) _ _ rfl rfl (by omega) _ _ _ _ _ _ _ rfl rfl rfl rfl rfl rfl rfl _ _ (by omega) (by omega) (fo0 bs) (fb0 bs) rfl rfl h6)
            · rw [if_pos h6] at frc1
              exact readI_no _ n c bs w 6 (by omega) hr hl (by omega) (by omega) hc frc1 (fun v g h => fourOf_6 v g _ n c bs _ h (by omega) rfl (by omega) (fHead bs) rfl (by omega) _ _ rfl rfl (by omega) _ _ _ _ _ _ _ rfl rfl rfl rfl rfl rfl rfl _ _ (by omega) (by omega) (fo0 bs) (fb0 bs) rfl rfl h6)
      · rw [if_pos h3] at frc1
        exact readI_no _ n c bs w 3 (by omega) hr hl (by omega) (by omega) hc frc1 (fun v g h => fourOf_3 v g _ n c bs _ h (by omega) rfl (by omega))
end Go.Proofs.Ytegpaocoepcemaa
