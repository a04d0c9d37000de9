/-
  The head of an IPv4 packet, in the model.
-/
import Derived.Test.YtekdfffjlcikeaaFourHead
namespace Go.Proofs.Ytekdfffjlcikeaa
open Go.RowKit

set_option maxRecDepth 100000 in
set_option maxHeartbeats 4000000 in
theorem headSC (x : Fh) (A D : Option Addr) (n c m d : Nat) (os : List UInt8) (sum : Int) (w : World) (hr : RB w w.heap.size A os) (hl : os.length = n) (hok : x.ok n m = true) :
    Calls Try.prog 44 #[.agg #[.int .i64 x.dscp, .int .i64 x.ecn, .int .i64 x.id, .int .i64 x.flags, .int .i64 x.frag, .int .i64 x.ttl, .int .i64 x.proto, .int .i64 x.src.k, .int .i64 x.src.a, .int .i64 x.src.b, .int .i64 x.src.c, .int .i64 x.src.d, .int .i64 x.dst.k, .int .i64 x.dst.a, .int .i64 x.dst.b, .int .i64 x.dst.c, .int .i64 x.dst.d, .slice A n c, .slice D m d], .int .i64 sum] w (HeadOut x sum os n m w) := by
  obtain ⟨⟨⟨hd0, hd1⟩, ⟨he0, he1⟩, _, ⟨hf0, hf1⟩, ⟨hg0, hg1⟩, ⟨hi0, hi1⟩, ⟨hj0, hj1⟩⟩, hs4, ht4, ⟨hn, _⟩, hm⟩ := (x.ok_iff n m).1 hok
  have HS := Lib.hid (And.intro hs4 ht4)
  have HR := Lib.hid hr
  have HL := Lib.hid hl
  have E := Lib.hid (show x.head sum os m = [byteOf (69 + (n : Int) / 4), byteOf (4 * x.dscp + x.ecn)] ++ put16 (20 + (n : Int) + m) ++ put16 x.id ++ put16 (8192 * x.flags + x.frag) ++ [byteOf x.ttl, byteOf x.proto] ++ put16 sum ++ put32 x.src.d ++ put32 x.dst.d ++ os by rw [← hl]; rfl)
  have EL := Lib.hid (show (x.head sum os m).length = 20 + n by rw [Fh.head_length, hl])
  clear hok hs4 ht4 hr hl
  have q := Lib.hid (K.new w (.cells #[.int .i64 x.dscp, .int .i64 x.ecn, .int .i64 x.id, .int .i64 x.flags, .int .i64 x.frag, .int .i64 x.ttl, .int .i64 x.proto, .int .i64 x.src.k, .int .i64 x.src.a, .int .i64 x.src.b, .int .i64 x.src.c, .int .i64 x.src.d, .int .i64 x.dst.k, .int .i64 x.dst.a, .int .i64 x.dst.b, .int .i64 x.dst.c, .int .i64 x.dst.d, .slice A n c, .slice D m d] 31))
  go_enter Try.func44, Try.ntmps44
  go_wp2_with fail
  have O0 : Hid (((w.alloc (.cells #[.int .i64 x.dscp, .int .i64 x.ecn, .int .i64 x.id, .int .i64 x.flags, .int .i64 x.frag, .int .i64 x.ttl, .int .i64 x.proto, .int .i64 x.src.k, .int .i64 x.src.a, .int .i64 x.src.b, .int .i64 x.src.c, .int .i64 x.src.d, .int .i64 x.dst.k, .int .i64 x.dst.a, .int .i64 x.dst.b, .int .i64 x.dst.c, .int .i64 x.dst.d, .slice A n c, .slice D m d] 31)).alloc (.cells #[.int .u8 (69 + (n : Int) / 4), .int .u8 (4 * x.dscp + x.ecn)] 5)).ownsRow (w.heap.size + 1) 5 1 (.slice (some ⟨w.heap.size + 1, 0, none⟩) 2 2) 2 (cellsOf [byteOf (69 + (n : Int) / 4), byteOf (4 * x.dscp + x.ecn)])) := by
    rw [cells2s _ _ (by omega) (by omega)]
    have := World.ownsRow_lit (e := 5) (size := 1) (base := w.heap.size + 1) (w.alloc (.cells #[.int .i64 x.dscp, .int .i64 x.ecn, .int .i64 x.id, .int .i64 x.flags, .int .i64 x.frag, .int .i64 x.ttl, .int .i64 x.proto, .int .i64 x.src.k, .int .i64 x.src.a, .int .i64 x.src.b, .int .i64 x.src.c, .int .i64 x.src.d, .int .i64 x.dst.k, .int .i64 x.dst.a, .int .i64 x.dst.b, .int .i64 x.dst.c, .int .i64 x.dst.d, .slice A n c, .slice D m d] 31)) #[.int .u8 (69 + (n : Int) / 4), .int .u8 (4 * x.dscp + x.ecn)] 2 (by simp) (by decide) rfl
    exact Lib.hid (by simpa using this)
  have q0 := Lib.hid (K.old q.out (.cells #[.int .u8 (69 + (n : Int) / 4), .int .u8 (4 * x.dscp + x.ecn)] 5))
  have B0 := Lib.hid (Joins.below_alloc2 w (.cells #[.int .i64 x.dscp, .int .i64 x.ecn, .int .i64 x.id, .int .i64 x.flags, .int .i64 x.frag, .int .i64 x.ttl, .int .i64 x.proto, .int .i64 x.src.k, .int .i64 x.src.a, .int .i64 x.src.b, .int .i64 x.src.c, .int .i64 x.src.d, .int .i64 x.dst.k, .int .i64 x.dst.a, .int .i64 x.dst.b, .int .i64 x.dst.c, .int .i64 x.dst.d, .slice A n c, .slice D m d] 31) (.cells #[.int .u8 (69 + (n : Int) / 4), .int .u8 (4 * x.dscp + x.ecn)] 5))
  refine Calls.mono (put16S ((20 + (n : Int) + m)) _) ?_
  rintro e u1 ⟨X1, y1, rfl, p1, b1⟩
  have P1 := Lib.hid (own_below O0.out b1)
  have Q1 := Lib.hid (K.below b1 q0.out)
  have D1 := Lib.hid (bthen B0.out b1)
  have R1 := Lib.hid (RB.of_own p1)
  clear p1 b1
  go_wp2_with (first | (at_builtin; (refine wpList_append_b rfl (.tmp 20) (.tmp 29) rfl (w.heap.size + 1) (.slice (some ⟨w.heap.size + 1, 0, none⟩) 2 2) ([byteOf (69 + (n : Int) / 4), byteOf (4 * x.dscp + x.ecn)]) rfl P1.out _ X1 2 y1 (put16 (20 + (n : Int) + m)) rfl rfl R1.out (by simp [put16]) (K.lt Q1.out) ?_); intro v1 w1 o1 g1 _; have n1 : w1.ownsRow (w.heap.size + 1) 5 1 v1 4 (cellsOf ([byteOf (69 + (n : Int) / 4), byteOf (4 * x.dscp + x.ecn)] ++ put16 (20 + (n : Int) + m))) := o1; clear o1; obtain ⟨A1, c1, rfl⟩ := own_form n1; have O1 := Lib.hid n1; clear n1; have q1 := Lib.hid (K.kept g1 Q1.out (fun k hk => by have := (World.ownsRow.lt P1.out k hk).1; omega)); have B1 := Lib.hid (bgrown D1.out g1 (fun k hk => by have := (World.ownsRow.lt P1.out k hk).1; omega)); clear g1; have z2 := K.cell q1.out 2 _ rfl))
  refine Calls.mono (put16S (x.id) _) ?_
  rintro e u2 ⟨X2, y2, rfl, p2, b2⟩
  have P2 := Lib.hid (own_below O1.out b2)
  have Q2 := Lib.hid (K.below b2 q1.out)
  have D2 := Lib.hid (bthen B1.out b2)
  have R2 := Lib.hid (RB.of_own p2)
  clear p2 b2
  go_wp2_with (first | (at_builtin; (refine wpList_append_b rfl (.tmp 31) (.tmp 34) rfl (w.heap.size + 1) (.slice A1 4 c1) ([byteOf (69 + (n : Int) / 4), byteOf (4 * x.dscp + x.ecn)] ++ put16 (20 + (n : Int) + m)) rfl P2.out _ X2 2 y2 (put16 x.id) rfl rfl R2.out (by simp [put16]) (K.lt Q2.out) ?_); intro v2 w2 o2 g2 _; have n2 : w2.ownsRow (w.heap.size + 1) 5 1 v2 6 (cellsOf ([byteOf (69 + (n : Int) / 4), byteOf (4 * x.dscp + x.ecn)] ++ put16 (20 + (n : Int) + m) ++ put16 x.id)) := o2; clear o2; obtain ⟨A2, c2, rfl⟩ := own_form n2; have O2 := Lib.hid n2; clear n2; have q2 := Lib.hid (K.kept g2 Q2.out (fun k hk => by have := (World.ownsRow.lt P2.out k hk).1; omega)); have B2 := Lib.hid (bgrown D2.out g2 (fun k hk => by have := (World.ownsRow.lt P2.out k hk).1; omega)); clear g2; have z3 := K.cell q2.out 3 _ rfl; have z4 := K.cell q2.out 4 _ rfl))
  refine Calls.mono (put16S ((8192 * x.flags + x.frag)) _) ?_
  rintro e u3 ⟨X3, y3, rfl, p3, b3⟩
  have P3 := Lib.hid (own_below O2.out b3)
  have Q3 := Lib.hid (K.below b3 q2.out)
  have D3 := Lib.hid (bthen B2.out b3)
  have R3 := Lib.hid (RB.of_own p3)
  clear p3 b3
  go_wp2_with (first | (at_builtin; (refine wpList_append_b rfl (.tmp 36) (.tmp 43) rfl (w.heap.size + 1) (.slice A2 6 c2) ([byteOf (69 + (n : Int) / 4), byteOf (4 * x.dscp + x.ecn)] ++ put16 (20 + (n : Int) + m) ++ put16 x.id) rfl P3.out _ X3 2 y3 (put16 (8192 * x.flags + x.frag)) rfl rfl R3.out (by simp [put16]) (K.lt Q3.out) ?_); intro v3 w3 o3 g3 _; have n3 : w3.ownsRow (w.heap.size + 1) 5 1 v3 8 (cellsOf ([byteOf (69 + (n : Int) / 4), byteOf (4 * x.dscp + x.ecn)] ++ put16 (20 + (n : Int) + m) ++ put16 x.id ++ put16 (8192 * x.flags + x.frag))) := o3; clear o3; obtain ⟨A3, c3, rfl⟩ := own_form n3; have O3 := Lib.hid n3; clear n3; have q3 := Lib.hid (K.kept g3 Q3.out (fun k hk => by have := (World.ownsRow.lt P3.out k hk).1; omega)); have B3 := Lib.hid (bgrown D3.out g3 (fun k hk => by have := (World.ownsRow.lt P3.out k hk).1; omega)); clear g3; have z5 := K.cell q3.out 5 _ rfl; have z6 := K.cell q3.out 6 _ rfl) | (at_builtin; (refine wpList_append_b rfl (.tmp 45) (.tmp 52) rfl (w.heap.size + 1) (.slice A3 8 c3) ([byteOf (69 + (n : Int) / 4), byteOf (4 * x.dscp + x.ecn)] ++ put16 (20 + (n : Int) + m) ++ put16 x.id ++ put16 (8192 * x.flags + x.frag)) rfl (World.ownsRow.alloc O3.out (.cells #[.int .u8 x.ttl, .int .u8 x.proto] 5)) _ (some ⟨w3.heap.size, 0, none⟩) 2 2 ([byteOf x.ttl, byteOf x.proto]) rfl rfl (rb_twos w3 x.ttl x.proto ⟨hi0, by omega⟩ ⟨hj0, by omega⟩) (by simp [put16]) (K.lt (K.old q3.out (.cells #[.int .u8 x.ttl, .int .u8 x.proto] 5))) ?_); intro v4 w4 o4 g4 _; have n4 : w4.ownsRow (w.heap.size + 1) 5 1 v4 10 (cellsOf ([byteOf (69 + (n : Int) / 4), byteOf (4 * x.dscp + x.ecn)] ++ put16 (20 + (n : Int) + m) ++ put16 x.id ++ put16 (8192 * x.flags + x.frag) ++ [byteOf x.ttl, byteOf x.proto])) := o4; clear o4; obtain ⟨A4, c4, rfl⟩ := own_form n4; have O4 := Lib.hid n4; clear n4; have q4 := Lib.hid (K.kept g4 (K.old q3.out (.cells #[.int .u8 x.ttl, .int .u8 x.proto] 5)) (fun k hk => by have := (World.ownsRow.lt (World.ownsRow.alloc O3.out (.cells #[.int .u8 x.ttl, .int .u8 x.proto] 5)) k hk).1; omega)); have B4 := Lib.hid (bgrown (bthen B3.out (Joins.below_alloc1 w3 (.cells #[.int .u8 x.ttl, .int .u8 x.proto] 5))) g4 (fun k hk => by have := (World.ownsRow.lt (World.ownsRow.alloc O3.out (.cells #[.int .u8 x.ttl, .int .u8 x.proto] 5)) k hk).1; omega)); clear g4))
  refine Calls.mono (put16S (sum) _) ?_
  rintro e u5 ⟨X5, y5, rfl, p5, b5⟩
  have P5 := Lib.hid (own_below O4.out b5)
  have Q5 := Lib.hid (K.below b5 q4.out)
  have D5 := Lib.hid (bthen B4.out b5)
  have R5 := Lib.hid (RB.of_own p5)
  clear p5 b5
  go_wp2_with (first | (at_builtin; (refine wpList_append_b rfl (.tmp 54) (.tmp 56) rfl (w.heap.size + 1) (.slice A4 10 c4) ([byteOf (69 + (n : Int) / 4), byteOf (4 * x.dscp + x.ecn)] ++ put16 (20 + (n : Int) + m) ++ put16 x.id ++ put16 (8192 * x.flags + x.frag) ++ [byteOf x.ttl, byteOf x.proto]) rfl P5.out _ X5 2 y5 (put16 sum) rfl rfl R5.out (by simp [put16]) (K.lt Q5.out) ?_); intro v5 w5 o5 g5 _; have n5 : w5.ownsRow (w.heap.size + 1) 5 1 v5 12 (cellsOf ([byteOf (69 + (n : Int) / 4), byteOf (4 * x.dscp + x.ecn)] ++ put16 (20 + (n : Int) + m) ++ put16 x.id ++ put16 (8192 * x.flags + x.frag) ++ [byteOf x.ttl, byteOf x.proto] ++ put16 sum)) := o5; clear o5; obtain ⟨A5, c5, rfl⟩ := own_form n5; have O5 := Lib.hid n5; clear n5; have q5 := Lib.hid (K.kept g5 Q5.out (fun k hk => by have := (World.ownsRow.lt P5.out k hk).1; omega)); have B5 := Lib.hid (bgrown D5.out g5 (fun k hk => by have := (World.ownsRow.lt P5.out k hk).1; omega)); clear g5; have z7 := K.cell q5.out 7 _ rfl; have z8 := K.cell q5.out 8 _ rfl; have z9 := K.cell q5.out 9 _ rfl; have z10 := K.cell q5.out 10 _ rfl; have z11 := K.cell q5.out 11 _ rfl))
  refine Calls.mono (addr4S x.src HS.out.1 _) ?_
  rintro e u6 ⟨X6, y6, rfl, p6, b6⟩
  have P6 := Lib.hid (own_below O5.out b6)
  have Q6 := Lib.hid (K.below b6 q5.out)
  have D6 := Lib.hid (bthen B5.out b6)
  have R6 := Lib.hid (RB.of_own p6)
  clear p6 b6
  go_wp2_with (first | (at_builtin; (refine wpList_append_b rfl (.tmp 58) (.tmp 61) rfl (w.heap.size + 1) (.slice A5 12 c5) ([byteOf (69 + (n : Int) / 4), byteOf (4 * x.dscp + x.ecn)] ++ put16 (20 + (n : Int) + m) ++ put16 x.id ++ put16 (8192 * x.flags + x.frag) ++ [byteOf x.ttl, byteOf x.proto] ++ put16 sum) rfl P6.out _ X6 4 y6 (put32 x.src.d) rfl rfl R6.out (by simp [put16, put32]) (K.lt Q6.out) ?_); intro v6 w6 o6 g6 _; have n6 : w6.ownsRow (w.heap.size + 1) 5 1 v6 16 (cellsOf ([byteOf (69 + (n : Int) / 4), byteOf (4 * x.dscp + x.ecn)] ++ put16 (20 + (n : Int) + m) ++ put16 x.id ++ put16 (8192 * x.flags + x.frag) ++ [byteOf x.ttl, byteOf x.proto] ++ put16 sum ++ put32 x.src.d)) := o6; clear o6; obtain ⟨A6, c6, rfl⟩ := own_form n6; have O6 := Lib.hid n6; clear n6; have q6 := Lib.hid (K.kept g6 Q6.out (fun k hk => by have := (World.ownsRow.lt P6.out k hk).1; omega)); have B6 := Lib.hid (bgrown D6.out g6 (fun k hk => by have := (World.ownsRow.lt P6.out k hk).1; omega)); clear g6; have z12 := K.cell q6.out 12 _ rfl; have z13 := K.cell q6.out 13 _ rfl; have z14 := K.cell q6.out 14 _ rfl; have z15 := K.cell q6.out 15 _ rfl; have z16 := K.cell q6.out 16 _ rfl))
  refine Calls.mono (addr4S x.dst HS.out.2 _) ?_
  rintro e u7 ⟨X7, y7, rfl, p7, b7⟩
  have P7 := Lib.hid (own_below O6.out b7)
  have Q7 := Lib.hid (K.below b7 q6.out)
  have D7 := Lib.hid (bthen B6.out b7)
  have R7 := Lib.hid (RB.of_own p7)
  clear p7 b7
  go_wp2_with (first | (at_builtin; (refine wpList_append_b rfl (.tmp 63) (.tmp 66) rfl (w.heap.size + 1) (.slice A6 16 c6) ([byteOf (69 + (n : Int) / 4), byteOf (4 * x.dscp + x.ecn)] ++ put16 (20 + (n : Int) + m) ++ put16 x.id ++ put16 (8192 * x.flags + x.frag) ++ [byteOf x.ttl, byteOf x.proto] ++ put16 sum ++ put32 x.src.d) rfl P7.out _ X7 4 y7 (put32 x.dst.d) rfl rfl R7.out (by simp [put16, put32]) (K.lt Q7.out) ?_); intro v7 w7 o7 g7 _; have n7 : w7.ownsRow (w.heap.size + 1) 5 1 v7 20 (cellsOf ([byteOf (69 + (n : Int) / 4), byteOf (4 * x.dscp + x.ecn)] ++ put16 (20 + (n : Int) + m) ++ put16 x.id ++ put16 (8192 * x.flags + x.frag) ++ [byteOf x.ttl, byteOf x.proto] ++ put16 sum ++ put32 x.src.d ++ put32 x.dst.d)) := o7; clear o7; obtain ⟨A7, c7, rfl⟩ := own_form n7; have O7 := Lib.hid n7; clear n7; have q7 := Lib.hid (K.kept g7 Q7.out (fun k hk => by have := (World.ownsRow.lt P7.out k hk).1; omega)); have B7 := Lib.hid (bgrown D7.out g7 (fun k hk => by have := (World.ownsRow.lt P7.out k hk).1; omega)); clear g7; have z17 := K.cell q7.out 17 _ rfl) | (at_builtin; (refine wpList_append_b rfl (.tmp 68) (.tmp 70) rfl (w.heap.size + 1) (.slice A7 20 c7) ([byteOf (69 + (n : Int) / 4), byteOf (4 * x.dscp + x.ecn)] ++ put16 (20 + (n : Int) + m) ++ put16 x.id ++ put16 (8192 * x.flags + x.frag) ++ [byteOf x.ttl, byteOf x.proto] ++ put16 sum ++ put32 x.src.d ++ put32 x.dst.d) rfl O7.out w.heap.size A n c os rfl HL.out (HR.out.below B7.out) (by rw [HL.out]; simp [put16, put32]; omega) (K.lt q7.out) ?_); intro v8 w8 o8 g8 _; rw [← E.out, EL.out] at o8; obtain ⟨A8, c8, rfl⟩ := own_form o8; have O8 := Lib.hid o8; clear o8; have q8 := Lib.hid (K.kept g8 q7.out (fun k hk => by have := (World.ownsRow.lt O7.out k hk).1; omega)); have B8 := Lib.hid (bgrown B7.out g8 (fun k hk => by have := (World.ownsRow.lt O7.out k hk).1; omega)); clear g8))
  go_ret
  exact ⟨A8, c8, rfl, own_base O8.out (by omega), B8.out⟩
end Go.Proofs.Ytekdfffjlcikeaa
