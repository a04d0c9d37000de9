/-
  What the head of an IPv4 packet is made of: integers packed by shifts, two and four bytes at a time. The head of an IPv4 packet, in the model. The head of an IPv4 packet, in the program. A slice that reads as a list of cells, whatever they are; 'append' onto a row of the call's own, from whatever source; rows of integers. What the laws' own helpers on slices of integers do: a copy, a comparison; a slice of integers that came in. What the model's functions of chapter 2 answer. What the program's functions of chapter 2 answer. FourPiece and HeadSum, in the model and in the program.
-/
import Derived.Test.YtegpaocoepcemaaFourOk
import Derived.Test.YtegpaocoepcemaaAddrImpl
import Derived.Test.YtegpaocoepcemaaApp
import Derived.Deep.QuietTactic
import Derived.BigQuiet
import Derived.ProofKit
import Derived.OpenShut
import Derived.Test.YtegpaocoepcemaaBytes
import Derived.Test.YtegpaocoepcemaaSum
import Derived.Test.YtegpaocoepcemaaBe
import Derived.StillTailTactics
import Derived.Test.YtegpaocoepcemaaFourOkS
import Derived.Test.YtegpaocoepcemaaKdB
namespace Go.Proofs.Ytegpaocoepcemaa
set_option maxRecDepth 100000
open Go.RowKit

theorem or_mul (m b i : Nat) (hm : 2 ^ i * m + b < 4611686018427387904) (hb : b < 2 ^ i) : bits .or .i64 ((2 ^ i * m : Nat) : Int) (b : Int) = ((2 ^ i * m + b : Nat) : Int) := by
  have ho : 2 ^ i * m ||| b = 2 ^ i * m + b := (Nat.two_pow_add_eq_or_of_lt hb m).symm
  show IntKind.i64.wrap ((BitVec.ofInt 64 ((2 ^ i * m : Nat) : Int) ||| BitVec.ofInt 64 (b : Int)).toNat : Int) = _
  rw [BitVec.toNat_or, ofInt_i64 _ (by omega), ofInt_i64 b (by omega), ho, IntKind.wrap_i64]
  omega
theorem or_2 (a b : Int) (ha : 0 ≤ a ∧ a ≤ 63) (hb : 0 ≤ b ∧ b ≤ 3) : bits .or .i64 (a * 4) b = 4 * a + b := by
  obtain ⟨m, rfl⟩ := Int.eq_ofNat_of_zero_le ha.1
  obtain ⟨k, rfl⟩ := Int.eq_ofNat_of_zero_le hb.1
  have := or_mul m k 2 (by omega) (by omega)
  rw [show (m : Int) * 4 = ((2 ^ 2 * m : Nat) : Int) by omega, this]
  omega
theorem or_13 (a b : Int) (ha : 0 ≤ a ∧ a ≤ 7) (hb : 0 ≤ b ∧ b ≤ 8191) : bits .or .i64 (a * 8192) b = 8192 * a + b := by
  obtain ⟨m, rfl⟩ := Int.eq_ofNat_of_zero_le ha.1
  obtain ⟨k, rfl⟩ := Int.eq_ofNat_of_zero_le hb.1
  have := or_mul m k 13 (by omega) (by omega)
  rw [show (m : Int) * 8192 = ((2 ^ 13 * m : Nat) : Int) by omega, this]
  omega
theorem or_64 (q : Int) (hq : 0 ≤ q ∧ q ≤ 15) : bits .or .i64 64 q = 64 + q := by
  obtain ⟨k, rfl⟩ := Int.eq_ofNat_of_zero_le hq.1
  have := or_mul 4 k 4 (by omega) (by omega)
  rw [show (64 : Int) = ((2 ^ 4 * 4 : Nat) : Int) by omega, this]
  omega

def TwoOut (ds : List UInt8) (k : Nat) (w : World) (e : Ending) (w' : World) : Prop := ∃ A c, e = .returned (.slice A k c) ∧ w'.ownsRow w.heap.size 5 1 (.slice A k c) k (cellsOf ds) ∧ Below w.heap.size w w'
theorem put16S (n : Int) (w : World) : Calls Try.prog 55 #[.int .i64 n] w (TwoOut (put16 n) 2 w) := (specPut16 n w).mono fun _ _ ⟨h, o, b⟩ => ⟨_, _, h, o, b⟩
theorem put16I (n : Int) (w : World) : Calls Try.prog 59 #[.int .i64 n] w (TwoOut (put16 n) 2 w) := (implPut16 n w).mono fun _ _ ⟨h, o, b⟩ => ⟨_, _, h, o, b⟩
theorem addr4S (x : Ad) (h : adOk4 x = true) (w : World) : Calls Try.prog 57 #[.agg #[.int .i64 x.k, .int .i64 x.a, .int .i64 x.b, .int .i64 x.c, .int .i64 x.d]] w (TwoOut (put32 x.d) 4 w) :=
  (specAddrBytes x w).mono fun _ _ ⟨A, c, he, o, b⟩ => by rw [adOk4_bytes h] at he o; exact ⟨A, c, he, o, b⟩
theorem addr4I (x : Ad) (h : adOk4 x = true) (w : World) : Calls Try.prog 61 #[.agg #[.int .i64 x.k, .int .i64 x.a, .int .i64 x.b, .int .i64 x.c, .int .i64 x.d]] w (TwoOut (put32 x.d) 4 w) :=
  (implAddrBytes x w).mono fun _ _ ⟨A, c, he, o, b⟩ => by rw [adOk4_bytes h] at he o; exact ⟨A, c, he, o, b⟩
theorem hcells2 (a b : Int) : cellsOf [byteOf a, byteOf b] = [.int .u8 (a % 256), .int .u8 (b % 256)] := by simp [cellsOf, byteOf_val]
theorem cells2s (a b : Int) (ha : 0 ≤ a ∧ a < 256) (hb : 0 ≤ b ∧ b < 256) : cellsOf [byteOf a, byteOf b] = [.int .u8 a, .int .u8 b] := by
  rw [hcells2, Int.emod_eq_of_lt ha.1 ha.2, Int.emod_eq_of_lt hb.1 hb.2]
theorem rb_two (w : World) (a b : Int) : RB (w.alloc (.cells #[.int .u8 (a % 256), .int .u8 (b % 256)] 5)) (w.heap.size + 1) (some ⟨w.heap.size, 0, none⟩) [byteOf a, byteOf b] := by
  have := RB.new w 5 [byteOf a, byteOf b]
  rw [hcells2] at this
  exact this

theorem rb_twos (w : World) (a b : Int) (ha : 0 ≤ a ∧ a < 256) (hb : 0 ≤ b ∧ b < 256) : RB (w.alloc (.cells #[.int .u8 a, .int .u8 b] 5)) (w.heap.size + 1) (some ⟨w.heap.size, 0, none⟩) [byteOf a, byteOf b] := by
  have := RB.new w 5 [byteOf a, byteOf b]
  rw [cells2s a b ha hb] at this
  exact this

/-- What is made of a head. -/
def HeadOut (x : Fh) (sum : Int) (os : List UInt8) (n m : Nat) (w : World) (e : Ending) (w' : World) : Prop :=
  ∃ A c, e = .returned (.slice A (20 + n) c) ∧ w'.ownsRow w.heap.size 5 1 (.slice A (20 + n) c) (20 + n) (cellsOf (x.head sum os m)) ∧ Below w.heap.size w w'
end Go.Proofs.Ytegpaocoepcemaa

namespace Go.Proofs.Ytegpaocoepcemaa
set_option maxRecDepth 100000
open Go.RowKit

end Go.Proofs.Ytegpaocoepcemaa

namespace Go.Proofs.Ytegpaocoepcemaa
set_option maxRecDepth 100000
open Go.RowKit

theorem run_make_b (m : Nat) (hm : m ≤ 1048576) (w : World) : (Instr.makeSlice 28 (.int .i64 0) (.int .i64 (m : Int))).run Try.prog w = .ok (.slice (some ⟨w.heap.size, 0, none⟩) 0 m) (w.alloc (.cells (madeCells #[.int .u8 0] m) 5)) := by
  obtain ⟨i0, hi0, hz0, hz1, hz2⟩ := info_parts info_u8
  have := run_make (P := Try.prog) w 28 5 i0 (.int .u8 0) Try.underlying28 hi0 hz0 .i64 .i64 0 (m : Int) (Int.le_refl _) (by omega) (by rw [hz2]; omega) (by omega)
  simpa [hz1, Value.cells] using this
theorem own_made_b (w : World) (base m : Nat) (hb : base ≤ w.heap.size) (hm : m ≤ 1048576) : (w.alloc (.cells (madeCells #[.int .u8 0] m) 5)).ownsRow base 5 1 (.slice (some ⟨w.heap.size, 0, none⟩) 0 m) ([] : List UInt8).length (cellsOf []) :=
  World.ownsRow_made w _ m hb (by unfold maxLen; omega) (by rw [size_madeCells]; simp)
theorem run_make_z (z : Int) (m : Nat) (hz : z = (m : Int)) (hm : m ≤ 1048576) (w : World) : (Instr.makeSlice 28 (.int .i64 0) (.int .i64 z)).run Try.prog w = .ok (.slice (some ⟨w.heap.size, 0, none⟩) 0 m) (w.alloc (.cells (madeCells #[.int .u8 0] m) 5)) := hz ▸ run_make_b m hm w

set_option maxRecDepth 100000 in
set_option maxHeartbeats 4000000 in
theorem headIC (x : Fh) (A D : Option Addr) (n c m d : Nat) (os : List UInt8) (sum : Int) (w : World) (hr : RB w w.heap.size A os) (hl : os.length = n) (hok : x.ok n m = true) :
    Calls Try.prog 76 #[.agg #[.int .i64 x.dscp, .int .i64 x.ecn, .int .i64 x.id, .int .i64 x.flags, .int .i64 x.frag, .int .i64 x.ttl, .int .i64 x.proto, .int .i64 x.src.k, .int .i64 x.src.a, .int .i64 x.src.b, .int .i64 x.src.c, .int .i64 x.src.d, .int .i64 x.dst.k, .int .i64 x.dst.a, .int .i64 x.dst.b, .int .i64 x.dst.c, .int .i64 x.dst.d, .slice A n c, .slice D m d], .int .i64 sum] w (HeadOut x sum os n m w) := by
  obtain ⟨⟨⟨hd0, hd1⟩, ⟨he0, he1⟩, _, ⟨hf0, hf1⟩, ⟨hg0, hg1⟩, ⟨hi0, hi1⟩, ⟨hj0, hj1⟩⟩, hs4, ht4, ⟨hn, _⟩, hm⟩ := (x.ok_iff n m).1 hok
  have HS := Lib.hid (And.intro hs4 ht4)
  have HR := Lib.hid hr
  have HL := Lib.hid hl
  have E := Lib.hid (show x.head sum os m = [byteOf (69 + (n : Int) / 4), byteOf (4 * x.dscp + x.ecn)] ++ put16 (20 + (n : Int) + m) ++ put16 x.id ++ put16 (8192 * x.flags + x.frag) ++ [byteOf x.ttl, byteOf x.proto] ++ put16 sum ++ put32 x.src.d ++ put32 x.dst.d ++ os by rw [← hl]; rfl)
  have EL := Lib.hid (show (x.head sum os m).length = 20 + n by rw [Fh.head_length, hl])
  clear hok hs4 ht4 hr hl
  have q := Lib.hid (K.new w (.cells #[.int .i64 x.dscp, .int .i64 x.ecn, .int .i64 x.id, .int .i64 x.flags, .int .i64 x.frag, .int .i64 x.ttl, .int .i64 x.proto, .int .i64 x.src.k, .int .i64 x.src.a, .int .i64 x.src.b, .int .i64 x.src.c, .int .i64 x.src.d, .int .i64 x.dst.k, .int .i64 x.dst.a, .int .i64 x.dst.b, .int .i64 x.dst.c, .int .i64 x.dst.d, .slice A n c, .slice D m d] 52))
  have oa := or_2 x.dscp x.ecn ⟨hd0, hd1⟩ ⟨he0, he1⟩
  have ob := or_13 x.flags x.frag ⟨hf0, hf1⟩ ⟨hg0, hg1⟩
  have oc : bits .or .i64 64 ((20 + (n : Int)) / 4) = 69 + (n : Int) / 4 := by rw [or_64 _ (by omega)]; omega
  obtain ⟨M, hM⟩ : ∃ M : Nat, 20 + (n : Int) + m = M := ⟨20 + n + m, by omega⟩
  have hM2 : M ≤ 1048576 := by omega
  have mk := run_make_z (20 + (n : Int) + m) M hM hM2
  have HM := Lib.hid hM
  clear hM
  go_enter Try.func76, Try.ntmps76
  go_wp2_with (with_reducible refine loadF rfl _ rfl w.heap.size rfl q.out ?_)
  refine Calls.mono (fourHeadC x A D n c m d _ (by omega)) ?_
  rintro e v0 ⟨rfl, b0⟩
  have qm := Lib.hid (K.below b0 q.out)
  have Bm := Lib.hid (bthen (Joins.below_alloc1 w _) b0)
  clear b0
  have z18 := K.cell qm.out 18 _ rfl
  have z0 := cell_on (Joins.below_alloc1 v0 (.cells (madeCells #[.int .u8 0] M) 5)) (K.cell qm.out 0 _ rfl)
  have z1 := cell_on (Joins.below_alloc1 v0 (.cells (madeCells #[.int .u8 0] M) 5)) (K.cell qm.out 1 _ rfl)
  have OM := Lib.hid (own_made_b v0 (w.heap.size + 1) M (K.lt qm.out) hM2)
  have qn := Lib.hid (K.old qm.out (.cells (madeCells #[.int .u8 0] M) 5))
  have Bn := Lib.hid (bthen Bm.out (Joins.below_alloc1 v0 (.cells (madeCells #[.int .u8 0] M) 5)))
  have RM : Hid (RB ((v0.alloc (.cells (madeCells #[.int .u8 0] M) 5)).alloc (.cells #[.int .u8 (69 + (n : Int) / 4), .int .u8 (4 * x.dscp + x.ecn)] 5)) (v0.heap.size + 1 + 1) (some ⟨v0.heap.size + 1, 0, none⟩) [byteOf (69 + (n : Int) / 4), byteOf (4 * x.dscp + x.ecn)]) := by
    have := rb_twos (v0.alloc (.cells (madeCells #[.int .u8 0] M) 5)) (69 + (n : Int) / 4) (4 * x.dscp + x.ecn) (by omega) (by omega)
    simp only [World.size_alloc] at this
    exact Lib.hid this
  go_wp2_with (at_builtin; (refine wpList_append_b rfl (.tmp 17) (.tmp 29) rfl (w.heap.size + 1) (.slice (some ⟨v0.heap.size, 0, none⟩) 0 M) [] rfl (World.ownsRow.alloc OM.out (.cells #[.int .u8 (69 + (n : Int) / 4), .int .u8 (4 * x.dscp + x.ecn)] 5)) _ (some ⟨v0.heap.size + 1, 0, none⟩) 2 2 ([byteOf (69 + (n : Int) / 4), byteOf (4 * x.dscp + x.ecn)]) rfl rfl RM.out (by simp) (K.lt (K.old qn.out (.cells #[.int .u8 (69 + (n : Int) / 4), .int .u8 (4 * x.dscp + x.ecn)] 5))) ?_); intro v0' w0 o0 g0 _; have n0 : w0.ownsRow (w.heap.size + 1) 5 1 v0' 2 (cellsOf [byteOf (69 + (n : Int) / 4), byteOf (4 * x.dscp + x.ecn)]) := o0; clear o0; obtain ⟨A0, c0, rfl⟩ := own_form n0; have O0 := Lib.hid n0; clear n0; have q0 := Lib.hid (K.kept g0 (K.old qn.out (.cells #[.int .u8 (69 + (n : Int) / 4), .int .u8 (4 * x.dscp + x.ecn)] 5)) (fun k hk => by have := ((World.ownsRow.alloc OM.out (.cells #[.int .u8 (69 + (n : Int) / 4), .int .u8 (4 * x.dscp + x.ecn)] 5)).lt k hk).1; omega)); have B0 := Lib.hid (bgrown (bthen Bn.out (Joins.below_alloc1 _ (.cells #[.int .u8 (69 + (n : Int) / 4), .int .u8 (4 * x.dscp + x.ecn)] 5))) g0 (fun k hk => by have := ((World.ownsRow.alloc OM.out (.cells #[.int .u8 (69 + (n : Int) / 4), .int .u8 (4 * x.dscp + x.ecn)] 5)).lt k hk).1; omega)); clear g0)
  refine Calls.mono (put16I ((20 + (n : Int) + m)) _) ?_
  rintro e u1 ⟨X1, y1, rfl, p1, b1⟩
  have P1 := Lib.hid (own_below O0.out b1)
  have Q1 := Lib.hid (K.below b1 q0.out)
  have D1 := Lib.hid (bthen B0.out b1)
  have R1 := Lib.hid (RB.of_own p1)
  clear p1 b1
  go_wp2_with (first | (at_builtin; (refine wpList_append_b rfl (.tmp 31) (.tmp 33) rfl (w.heap.size + 1) (.slice A0 2 c0) ([byteOf (69 + (n : Int) / 4), byteOf (4 * x.dscp + x.ecn)]) rfl P1.out _ X1 2 y1 (put16 (20 + (n : Int) + m)) rfl rfl R1.out (by simp [put16]) (K.lt Q1.out) ?_); intro v1 w1 o1 g1 _; have n1 : w1.ownsRow (w.heap.size + 1) 5 1 v1 4 (cellsOf ([byteOf (69 + (n : Int) / 4), byteOf (4 * x.dscp + x.ecn)] ++ put16 (20 + (n : Int) + m))) := o1; clear o1; obtain ⟨A1, c1, rfl⟩ := own_form n1; have O1 := Lib.hid n1; clear n1; have q1 := Lib.hid (K.kept g1 Q1.out (fun k hk => by have := (World.ownsRow.lt P1.out k hk).1; omega)); have B1 := Lib.hid (bgrown D1.out g1 (fun k hk => by have := (World.ownsRow.lt P1.out k hk).1; omega)); clear g1; have z2 := K.cell q1.out 2 _ rfl))
  refine Calls.mono (put16I (x.id) _) ?_
  rintro e u2 ⟨X2, y2, rfl, p2, b2⟩
  have P2 := Lib.hid (own_below O1.out b2)
  have Q2 := Lib.hid (K.below b2 q1.out)
  have D2 := Lib.hid (bthen B1.out b2)
  have R2 := Lib.hid (RB.of_own p2)
  clear p2 b2
  go_wp2_with (first | (at_builtin; (refine wpList_append_b rfl (.tmp 35) (.tmp 38) rfl (w.heap.size + 1) (.slice A1 4 c1) ([byteOf (69 + (n : Int) / 4), byteOf (4 * x.dscp + x.ecn)] ++ put16 (20 + (n : Int) + m)) rfl P2.out _ X2 2 y2 (put16 x.id) rfl rfl R2.out (by simp [put16]) (K.lt Q2.out) ?_); intro v2 w2 o2 g2 _; have n2 : w2.ownsRow (w.heap.size + 1) 5 1 v2 6 (cellsOf ([byteOf (69 + (n : Int) / 4), byteOf (4 * x.dscp + x.ecn)] ++ put16 (20 + (n : Int) + m) ++ put16 x.id)) := o2; clear o2; obtain ⟨A2, c2, rfl⟩ := own_form n2; have O2 := Lib.hid n2; clear n2; have q2 := Lib.hid (K.kept g2 Q2.out (fun k hk => by have := (World.ownsRow.lt P2.out k hk).1; omega)); have B2 := Lib.hid (bgrown D2.out g2 (fun k hk => by have := (World.ownsRow.lt P2.out k hk).1; omega)); clear g2; have z3 := K.cell q2.out 3 _ rfl; have z4 := K.cell q2.out 4 _ rfl))
  refine Calls.mono (put16I ((8192 * x.flags + x.frag)) _) ?_
  rintro e u3 ⟨X3, y3, rfl, p3, b3⟩
  have P3 := Lib.hid (own_below O2.out b3)
  have Q3 := Lib.hid (K.below b3 q2.out)
  have D3 := Lib.hid (bthen B2.out b3)
  have R3 := Lib.hid (RB.of_own p3)
  clear p3 b3
  go_wp2_with (first | (at_builtin; (refine wpList_append_b rfl (.tmp 40) (.tmp 47) rfl (w.heap.size + 1) (.slice A2 6 c2) ([byteOf (69 + (n : Int) / 4), byteOf (4 * x.dscp + x.ecn)] ++ put16 (20 + (n : Int) + m) ++ put16 x.id) rfl P3.out _ X3 2 y3 (put16 (8192 * x.flags + x.frag)) rfl rfl R3.out (by simp [put16]) (K.lt Q3.out) ?_); intro v3 w3 o3 g3 _; have n3 : w3.ownsRow (w.heap.size + 1) 5 1 v3 8 (cellsOf ([byteOf (69 + (n : Int) / 4), byteOf (4 * x.dscp + x.ecn)] ++ put16 (20 + (n : Int) + m) ++ put16 x.id ++ put16 (8192 * x.flags + x.frag))) := o3; clear o3; obtain ⟨A3, c3, rfl⟩ := own_form n3; have O3 := Lib.hid n3; clear n3; have q3 := Lib.hid (K.kept g3 Q3.out (fun k hk => by have := (World.ownsRow.lt P3.out k hk).1; omega)); have B3 := Lib.hid (bgrown D3.out g3 (fun k hk => by have := (World.ownsRow.lt P3.out k hk).1; omega)); clear g3; have z5 := K.cell q3.out 5 _ rfl; have z6 := K.cell q3.out 6 _ rfl) | (at_builtin; (refine wpList_append_b rfl (.tmp 49) (.tmp 56) rfl (w.heap.size + 1) (.slice A3 8 c3) ([byteOf (69 + (n : Int) / 4), byteOf (4 * x.dscp + x.ecn)] ++ put16 (20 + (n : Int) + m) ++ put16 x.id ++ put16 (8192 * x.flags + x.frag)) rfl (World.ownsRow.alloc O3.out (.cells #[.int .u8 x.ttl, .int .u8 x.proto] 5)) _ (some ⟨w3.heap.size, 0, none⟩) 2 2 ([byteOf x.ttl, byteOf x.proto]) rfl rfl (rb_twos w3 x.ttl x.proto ⟨hi0, by omega⟩ ⟨hj0, by omega⟩) (by simp [put16]) (K.lt (K.old q3.out (.cells #[.int .u8 x.ttl, .int .u8 x.proto] 5))) ?_); intro v4 w4 o4 g4 _; have n4 : w4.ownsRow (w.heap.size + 1) 5 1 v4 10 (cellsOf ([byteOf (69 + (n : Int) / 4), byteOf (4 * x.dscp + x.ecn)] ++ put16 (20 + (n : Int) + m) ++ put16 x.id ++ put16 (8192 * x.flags + x.frag) ++ [byteOf x.ttl, byteOf x.proto])) := o4; clear o4; obtain ⟨A4, c4, rfl⟩ := own_form n4; have O4 := Lib.hid n4; clear n4; have q4 := Lib.hid (K.kept g4 (K.old q3.out (.cells #[.int .u8 x.ttl, .int .u8 x.proto] 5)) (fun k hk => by have := (World.ownsRow.lt (World.ownsRow.alloc O3.out (.cells #[.int .u8 x.ttl, .int .u8 x.proto] 5)) k hk).1; omega)); have B4 := Lib.hid (bgrown (bthen B3.out (Joins.below_alloc1 w3 (.cells #[.int .u8 x.ttl, .int .u8 x.proto] 5))) g4 (fun k hk => by have := (World.ownsRow.lt (World.ownsRow.alloc O3.out (.cells #[.int .u8 x.ttl, .int .u8 x.proto] 5)) k hk).1; omega)); clear g4))
  refine Calls.mono (put16I (sum) _) ?_
  rintro e u5 ⟨X5, y5, rfl, p5, b5⟩
  have P5 := Lib.hid (own_below O4.out b5)
  have Q5 := Lib.hid (K.below b5 q4.out)
  have D5 := Lib.hid (bthen B4.out b5)
  have R5 := Lib.hid (RB.of_own p5)
  clear p5 b5
  go_wp2_with (first | (at_builtin; (refine wpList_append_b rfl (.tmp 58) (.tmp 60) rfl (w.heap.size + 1) (.slice A4 10 c4) ([byteOf (69 + (n : Int) / 4), byteOf (4 * x.dscp + x.ecn)] ++ put16 (20 + (n : Int) + m) ++ put16 x.id ++ put16 (8192 * x.flags + x.frag) ++ [byteOf x.ttl, byteOf x.proto]) rfl P5.out _ X5 2 y5 (put16 sum) rfl rfl R5.out (by simp [put16]) (K.lt Q5.out) ?_); intro v5 w5 o5 g5 _; have n5 : w5.ownsRow (w.heap.size + 1) 5 1 v5 12 (cellsOf ([byteOf (69 + (n : Int) / 4), byteOf (4 * x.dscp + x.ecn)] ++ put16 (20 + (n : Int) + m) ++ put16 x.id ++ put16 (8192 * x.flags + x.frag) ++ [byteOf x.ttl, byteOf x.proto] ++ put16 sum)) := o5; clear o5; obtain ⟨A5, c5, rfl⟩ := own_form n5; have O5 := Lib.hid n5; clear n5; have q5 := Lib.hid (K.kept g5 Q5.out (fun k hk => by have := (World.ownsRow.lt P5.out k hk).1; omega)); have B5 := Lib.hid (bgrown D5.out g5 (fun k hk => by have := (World.ownsRow.lt P5.out k hk).1; omega)); clear g5; have z7 := K.cell q5.out 7 _ rfl; have z8 := K.cell q5.out 8 _ rfl; have z9 := K.cell q5.out 9 _ rfl; have z10 := K.cell q5.out 10 _ rfl; have z11 := K.cell q5.out 11 _ rfl))
  refine Calls.mono (addr4I x.src HS.out.1 _) ?_
  rintro e u6 ⟨X6, y6, rfl, p6, b6⟩
  have P6 := Lib.hid (own_below O5.out b6)
  have Q6 := Lib.hid (K.below b6 q5.out)
  have D6 := Lib.hid (bthen B5.out b6)
  have R6 := Lib.hid (RB.of_own p6)
  clear p6 b6
  go_wp2_with (first | (at_builtin; (refine wpList_append_b rfl (.tmp 62) (.tmp 65) rfl (w.heap.size + 1) (.slice A5 12 c5) ([byteOf (69 + (n : Int) / 4), byteOf (4 * x.dscp + x.ecn)] ++ put16 (20 + (n : Int) + m) ++ put16 x.id ++ put16 (8192 * x.flags + x.frag) ++ [byteOf x.ttl, byteOf x.proto] ++ put16 sum) rfl P6.out _ X6 4 y6 (put32 x.src.d) rfl rfl R6.out (by simp [put16, put32]) (K.lt Q6.out) ?_); intro v6 w6 o6 g6 _; have n6 : w6.ownsRow (w.heap.size + 1) 5 1 v6 16 (cellsOf ([byteOf (69 + (n : Int) / 4), byteOf (4 * x.dscp + x.ecn)] ++ put16 (20 + (n : Int) + m) ++ put16 x.id ++ put16 (8192 * x.flags + x.frag) ++ [byteOf x.ttl, byteOf x.proto] ++ put16 sum ++ put32 x.src.d)) := o6; clear o6; obtain ⟨A6, c6, rfl⟩ := own_form n6; have O6 := Lib.hid n6; clear n6; have q6 := Lib.hid (K.kept g6 Q6.out (fun k hk => by have := (World.ownsRow.lt P6.out k hk).1; omega)); have B6 := Lib.hid (bgrown D6.out g6 (fun k hk => by have := (World.ownsRow.lt P6.out k hk).1; omega)); clear g6; have z12 := K.cell q6.out 12 _ rfl; have z13 := K.cell q6.out 13 _ rfl; have z14 := K.cell q6.out 14 _ rfl; have z15 := K.cell q6.out 15 _ rfl; have z16 := K.cell q6.out 16 _ rfl))
  refine Calls.mono (addr4I x.dst HS.out.2 _) ?_
  rintro e u7 ⟨X7, y7, rfl, p7, b7⟩
  have P7 := Lib.hid (own_below O6.out b7)
  have Q7 := Lib.hid (K.below b7 q6.out)
  have D7 := Lib.hid (bthen B6.out b7)
  have R7 := Lib.hid (RB.of_own p7)
  clear p7 b7
  go_wp2_with (first | (at_builtin; (refine wpList_append_b rfl (.tmp 67) (.tmp 70) rfl (w.heap.size + 1) (.slice A6 16 c6) ([byteOf (69 + (n : Int) / 4), byteOf (4 * x.dscp + x.ecn)] ++ put16 (20 + (n : Int) + m) ++ put16 x.id ++ put16 (8192 * x.flags + x.frag) ++ [byteOf x.ttl, byteOf x.proto] ++ put16 sum ++ put32 x.src.d) rfl P7.out _ X7 4 y7 (put32 x.dst.d) rfl rfl R7.out (by simp [put16, put32]) (K.lt Q7.out) ?_); intro v7 w7 o7 g7 _; have n7 : w7.ownsRow (w.heap.size + 1) 5 1 v7 20 (cellsOf ([byteOf (69 + (n : Int) / 4), byteOf (4 * x.dscp + x.ecn)] ++ put16 (20 + (n : Int) + m) ++ put16 x.id ++ put16 (8192 * x.flags + x.frag) ++ [byteOf x.ttl, byteOf x.proto] ++ put16 sum ++ put32 x.src.d ++ put32 x.dst.d)) := o7; clear o7; obtain ⟨A7, c7, rfl⟩ := own_form n7; have O7 := Lib.hid n7; clear n7; have q7 := Lib.hid (K.kept g7 Q7.out (fun k hk => by have := (World.ownsRow.lt P7.out k hk).1; omega)); have B7 := Lib.hid (bgrown D7.out g7 (fun k hk => by have := (World.ownsRow.lt P7.out k hk).1; omega)); clear g7; have z17 := K.cell q7.out 17 _ rfl) | (at_builtin; (refine wpList_append_b rfl (.tmp 72) (.tmp 74) rfl (w.heap.size + 1) (.slice A7 20 c7) ([byteOf (69 + (n : Int) / 4), byteOf (4 * x.dscp + x.ecn)] ++ put16 (20 + (n : Int) + m) ++ put16 x.id ++ put16 (8192 * x.flags + x.frag) ++ [byteOf x.ttl, byteOf x.proto] ++ put16 sum ++ put32 x.src.d ++ put32 x.dst.d) rfl O7.out w.heap.size A n c os rfl HL.out (HR.out.below B7.out) (by rw [HL.out]; simp [put16, put32]; omega) (K.lt q7.out) ?_); intro v8 w8 o8 g8 _; rw [← E.out, EL.out] at o8; obtain ⟨A8, c8, rfl⟩ := own_form o8; have O8 := Lib.hid o8; clear o8; have q8 := Lib.hid (K.kept g8 q7.out (fun k hk => by have := (World.ownsRow.lt O7.out k hk).1; omega)); have B8 := Lib.hid (bgrown B7.out g8 (fun k hk => by have := (World.ownsRow.lt O7.out k hk).1; omega)); clear g8))
  go_ret
  exact ⟨A8, c8, rfl, own_base O8.out (by omega), B8.out⟩
end Go.Proofs.Ytegpaocoepcemaa

namespace Go.Proofs.Ytegpaocoepcemaa
set_option maxRecDepth 100000
open Go.RowKit

/-- The slice that begins at A reads as the cells vs, and lies below block number B. -/
def RV (w : World) (B : Nat) (A : Option Addr) (vs : List Value) : Prop :=
  0 < vs.length → ∃ g o, A = some ⟨g, o, none⟩ ∧ g < B ∧ ∀ j v, vs[j]? = some v → w.cell? ⟨g, o + j, none⟩ = some v

section
variable {w w' : World} {B B' : Nat} {A : Option Addr} {vs : List Value}

theorem RV.below (h : RV w B A vs) (hb : Below B w w') : RV w' B A vs := by
  intro hp
  obtain ⟨g, o, e, hg, hc⟩ := h hp
  exact ⟨g, o, e, hg, fun j u hu => (hb.cell (p := ⟨g, o + j, none⟩) hg).trans (hc j u hu)⟩

theorem RV.more (h : RV w B A vs) (hB : B ≤ B') : RV w B' A vs := by
  intro hp
  obtain ⟨g, o, e, hg, hc⟩ := h hp
  exact ⟨g, o, e, by omega, hc⟩

theorem RV.on (h : RV w w.heap.size A vs) (hb : Below w.heap.size w w') : RV w' w'.heap.size A vs := (h.below hb).more hb.size

theorem RV.nil_ (w : World) (B : Nat) (A : Option Addr) : RV w B A [] := fun h => absurd h (by simp)

theorem RV.of_own {base size : Nat} {e : TypeId} {n c : Nat} (h : w.ownsRow base e size (.slice A n c) n vs) : RV w w.heap.size A vs := by
  intro hp
  have hl := h.1
  rcases h.2 with ⟨h1, h2⟩ | ⟨g, cap, cur, hv, _, hg, _⟩
  · rw [h2, Nat.zero_mul] at hl
    omega
  · injection hv with hA hn hc
    subst hA
    subst hc
    refine ⟨g, 0, rfl, (Array.getElem?_eq_some_iff.1 hg).1, fun j u hu => ?_⟩
    have hj : j < vs.length := by
      rcases Nat.lt_or_ge j vs.length with h | h
      · exact h
      · rw [List.getElem?_eq_none h] at hu; cases hu
    rw [Nat.zero_add, h.cellAt j (by omega)]
    exact hu

theorem RV.at_ (h : RV w B A vs) {k : Nat} (hk : k < vs.length) : ∃ g o, A = some ⟨g, o, none⟩ ∧ g < B ∧ w.cell? ⟨g, o + k, none⟩ = some vs[k] := by
  obtain ⟨g, o, e, hg, hc⟩ := h (by omega)
  exact ⟨g, o, e, hg, hc k _ (List.getElem?_eq_getElem hk)⟩

/-- A new row reads as its cells. -/
theorem RV.new (w : World) (e : TypeId) (vs : List Value) : RV (w.alloc (.cells vs.toArray e)) (w.heap.size + 1) (some ⟨w.heap.size, 0, none⟩) vs := by
  intro hp
  refine ⟨w.heap.size, 0, rfl, by omega, fun j u hu => ?_⟩
  rw [cell_of_row _ w.heap.size (0 + j) _ e (0, 0) (heap_alloc_new w _)]
  simpa using hu
end

theorem run_append_v (w : World) (t ty e : TypeId) (i0 : TypeInfo) (z : Value) (size bytes : Nat) (ht : Try.prog.underlying t = some (.slice e)) (hi0 : Try.prog.info? e = some i0) (hz0 : i0.zero = some z) (hz1 : i0.size = size) (hz2 : i0.bytes = bytes) (hzs : z.cells.size = size) (hsz : 0 < size)
    (base : Nat) (v : Value) (n : Nat) (xs : List Value) (hown : w.ownsRow base e size v n xs) (B : Nat) (A : Option Addr) (m c : Nat) (ds : List Value) (hm : ds.length = m * size) (hr : RV w B A ds) (h1 : ∀ u ∈ ds, u.oneCell' = true)
    (h63 : n + m ≤ maxLen) (hby : (n + m) * bytes ≤ 140737488355328) (hbase : base ≤ w.heap.size) :
    ∃ v' w', (Builtin.append_ #[t, t] ty #[v, .slice A m c]).run Try.prog w = .ok v' w' ∧ w'.ownsRow base e size v' (n + m) (xs ++ ds) ∧ w.grownBy w' v.ownBlock ∧
      (v'.ownBlock = v.ownBlock ∨ v'.ownBlock = some w.heap.size) := by
  rcases A with _ | ad
  · have h0 : ds = [] := by
      rcases ds with _ | ⟨d, ds⟩
      · rfl
      · obtain ⟨g, o, h, _⟩ := hr (by simp)
        cases h
    subst h0
    have hm0 : m = 0 := by
      rcases Nat.mul_eq_zero.1 (show m * size = 0 from hm.symm) with h | h
      · exact h
      · omega
    subst hm0
    refine ⟨v, w, ?_, by simpa using hown, World.grownBy.refl _ _, .inl rfl⟩
    rcases hown.2 with ⟨rfl, h0⟩ | ⟨g, cap, cur, rfl, _, _, hnc, _⟩
    · simp [Builtin.append_, run_underlying ht, sizeOf, typeInfo, hi0, Builtin.lenOf, Builtin.firstCells]
    · simp [Builtin.append_, run_underlying ht, sizeOf, typeInfo, hi0, Builtin.lenOf, Builtin.firstCells, hnc, storeCells]
  · obtain ⟨v', w', g1, g2, g3, _, g5⟩ := run_append_own_at (P := Try.prog) w base t ty e i0 z size bytes ht hi0 hz0 hz1 hz2 hzs hsz v n xs hown ad m c ds hm (by
        intro j u hu
        have hj : j < ds.length := by
          rcases Nat.lt_or_ge j ds.length with h | h
          · exact h
          · rw [List.getElem?_eq_none h] at hu; cases hu
        obtain ⟨g, o, h, _, hc⟩ := hr (by omega)
        injection h with h
        subst h
        rw [addr_add]
        exact hc j u hu) h1 h63 hby hbase
    exact ⟨v', w', g1, g2, g3, g5⟩

/-- The cells of a list of integers. -/
def intsOf (xs : List Int) : List Value := xs.map fun n => .int .i64 n

theorem intsOf_length (xs : List Int) : (intsOf xs).length = xs.length := by simp [intsOf]
theorem intsOf_get (xs : List Int) (j : Nat) (u : Int) (h : xs[j]? = some u) : (intsOf xs)[j]? = some (.int .i64 u) := by simp [intsOf, h]
theorem intsOf_append (a b : List Int) : intsOf (a ++ b) = intsOf a ++ intsOf b := by simp [intsOf]
theorem intsOf_one (xs : List Int) : ∀ u ∈ intsOf xs, u.oneCell' = true := by
  intro u hu
  simp only [intsOf, List.mem_map] at hu
  obtain ⟨b, _, rfl⟩ := hu
  rfl
theorem RV.int {w : World} {B : Nat} {A : Option Addr} {xs : List Int} (h : RV w B A (intsOf xs)) {k : Nat} (hk : k < xs.length) : ∃ g o, A = some ⟨g, o, none⟩ ∧ g < B ∧ w.cell? ⟨g, o + k, none⟩ = some (.int .i64 xs[k]) := by
  obtain ⟨g, o, e, hg, hc⟩ := h (by rw [intsOf_length]; omega)
  exact ⟨g, o, e, hg, hc k _ (intsOf_get _ _ _ (List.getElem?_eq_getElem hk))⟩

theorem info_int : (Try.prog.info? 3).map (fun i => (i.zero, i.size, i.bytes)) = some (some (.int .i64 0), 1, 8) := by kernel_rfl

theorem run_append_i (w : World) (ty base : Nat) (v : Value) (n : Nat) (xs : List Int) (hown : w.ownsRow base 3 1 v n (intsOf xs)) (B : Nat) (A : Option Addr) (m c : Nat) (ds : List Int) (hm : ds.length = m) (hr : RV w B A (intsOf ds))
    (hn : n + m ≤ 67108864) (hbase : base ≤ w.heap.size) :
    ∃ v' w', (Builtin.append_ #[113, 113] ty #[v, .slice A m c]).run Try.prog w = .ok v' w' ∧ w'.ownsRow base 3 1 v' (n + m) (intsOf (xs ++ ds)) ∧ w.grownBy w' v.ownBlock ∧
      (v'.ownBlock = v.ownBlock ∨ v'.ownBlock = some w.heap.size) := by
  obtain ⟨i0, hi0, hz0, hz1, hz2⟩ := info_parts info_int
  rw [intsOf_append]
  exact run_append_v w 113 ty 3 i0 (.int .i64 0) 1 8 Try.underlying113 hi0 hz0 hz1 hz2 rfl (by omega) base v n _ hown B A m c _ (by rw [intsOf_length, hm, Nat.mul_one]) hr (intsOf_one ds) (by unfold maxLen; omega) (by omega) hbase

/-- 'append' onto a row of integers of the call's own, from whatever source of integers. -/
theorem wpList_append_i {w : World} {ops : Array Oper} {rest : List Oper} {o : Oper} {a : Act} {Q : Exit → Act → World → Prop} (hgd : o.guard = none) (s x : Operand)
    (ho : o.op = .call { callee := .builtin .append, args := #[s, x], argTypes := #[113, 113] }) (base : Nat) (v : Value) (n : Nat) (xs : List Int) (hs : a.eval s = v) (hown : w.ownsRow base 3 1 v n (intsOf xs))
    (B : Nat) (A : Option Addr) (m c : Nat) (ds : List Int) (hx : a.eval x = .slice A m c) (hm : ds.length = m) (hr : RV w B A (intsOf ds)) (hn : n + m ≤ 67108864) (hbase : base ≤ w.heap.size)
    (h : ∀ v' w', w'.ownsRow base 3 1 v' (n + m) (intsOf (xs ++ ds)) → w.grownBy w' v.ownBlock → (v'.ownBlock = v.ownBlock ∨ v'.ownBlock = some w.heap.size) → wpList Try.prog ops Q rest (a.put o.dst v') w') :
    wpList Try.prog ops Q (o :: rest) a w := by
  refine wpList_plain hgd fun K hK => ?_
  obtain ⟨v', w', hrun, h2, h3, h4⟩ := run_append_i w o.type base v n xs hown B A m c ds hm hr hn hbase
  unfold Oper.wp execOp
  simp only [ho, resolve, invoke, builtin, Sem.run_bind, Sem.run_pure, Result.andThen_ok, List.map_toArray, List.map_cons, List.map_nil, hs, hx, hrun]
  exact hK _ _ (h v' w' h2 h3 h4)

/-- The same, as one step of a region that draws its order. -/
theorem step_append_i {w : World} {ops : Array Oper} {o : Oper} {a : Act} {K : Act → World → Prop} {Q : Exit → Act → World → Prop} {E : Prop} (hgd : o.guard = none) (s x : Operand)
    (ho : o.op = .call { callee := .builtin .append, args := #[s, x], argTypes := #[113, 113] }) (base : Nat) (v : Value) (n : Nat) (xs : List Int) (hs : a.eval s = v) (hown : w.ownsRow base 3 1 v n (intsOf xs))
    (B : Nat) (A : Option Addr) (m c : Nat) (ds : List Int) (hx : a.eval x = .slice A m c) (hm : ds.length = m) (hr : RV w B A (intsOf ds)) (hn : n + m ≤ 67108864) (hbase : base ≤ w.heap.size)
    (h : ∀ v' w', w'.ownsRow base 3 1 v' (n + m) (intsOf (xs ++ ds)) → w.grownBy w' v.ownBlock → (v'.ownBlock = v.ownBlock ∨ v'.ownBlock = some w.heap.size) → K (a.put o.dst v') w') :
    if Region.wanted o (yielded ops a.tmps) = true then Oper.wp Try.prog o a w K Q else E := by
  have hw : Region.wanted o (yielded ops a.tmps) = true := by simp [Region.wanted, hgd]
  rw [if_pos hw]
  obtain ⟨v', w', hrun, h2, h3, h4⟩ := run_append_i w o.type base v n xs hown B A m c ds hm hr hn hbase
  unfold Oper.wp execOp
  simp only [ho, resolve, invoke, builtin, Sem.run_bind, Sem.run_pure, Result.andThen_ok, List.map_toArray, List.map_cons, List.map_nil, hs, hx, hrun]
  exact h v' w' h2 h3 h4
end Go.Proofs.Ytegpaocoepcemaa

namespace Go.Proofs.Ytegpaocoepcemaa
set_option maxRecDepth 100000
open Go.RowKit

theorem int_fill (pre tail : List Int) (x b : Int) (k : Nat) (hk : pre.length = k) : (intsOf (pre ++ x :: tail)).set k (.int .i64 b) = intsOf ((pre ++ [b]) ++ tail) := by
  have h := set_mid (intsOf pre) (.int .i64 x) (.int .i64 b) (intsOf tail) k (by rw [intsOf_length]; exact hk)
  simpa [intsOf] using h

theorem int_copy (xs : List Int) (k : Nat) (h : k < xs.length) :
    (intsOf (xs.take k ++ List.replicate (xs.length - k) 0)).set k (.int .i64 xs[k]) = intsOf (xs.take (k + 1) ++ List.replicate (xs.length - (k + 1)) 0) := by
  rw [show xs.length - k = (xs.length - (k + 1)) + 1 by omega, List.replicate_succ, int_fill _ _ _ _ k (by simp; omega), take_snoc xs k h]

/-- A slice of integers that came in: what the walk is told of it. -/
structure InI (w : World) (A : Option Addr) (n c : Nat) (xs : List Int) : Prop where
  len : xs.length = n
  cap : n ≤ c
  big : c ≤ maxLen
  rb : RV w w.heap.size A (intsOf xs)
  wf : ∀ x ∈ xs, (Lit.int .i64 x).wf = true

open Go.ChangeShapes Go.WideShapes Go.ChangeAt in
theorem ints_in {H : Type} {enc : TypeId × Value → H} {w : World} {A : Option Addr} {n c : Nat} {d : DataW H} {p : List MemPlace} (h : DataW.Trod enc Try.prog w 0 (fun _ => true) true 113 (.slice A n c) d p) :
    ∃ xs, InI w A n c xs := by
  obtain ⟨fuel, hf⟩ := h
  rcases open_ints Try.underlying113 Try.underlying3 (by kernel_rfl) hf with ⟨hcs, _⟩ | ⟨x, l, cp, zs, hcs, _, hl, hm, hz, _, hcell, hwz⟩
  · simp [Value.cells] at hcs
    obtain ⟨rfl, rfl, rfl⟩ := hcs
    exact ⟨[], rfl, Nat.le_refl _, Nat.zero_le _, RV.nil_ _ _ _, by simp⟩
  · simp [Value.cells] at hcs
    obtain ⟨rfl, rfl, rfl⟩ := hcs
    simp only [if_true] at hz
    refine ⟨zs.take n, by simp; omega, hl, hm, fun hp => ?_, fun x hx => hwz x (List.mem_of_mem_take hx)⟩
    simp only [intsOf_length, List.length_take] at hp
    obtain ⟨g, o, spot⟩ := x
    have h0 := hcell 0 (by omega)
    have hspot : spot = none := by simpa [Addr.add] using World.cell?_spot h0
    subst hspot
    refine ⟨g, o, rfl, ?_, fun j u hu => ?_⟩
    · have := World.block_lt_of_cell? w _ h0
      simpa [addr_add] using this
    · simp only [intsOf, List.getElem?_map, Option.map_eq_some_iff, List.getElem?_take] at hu
      obtain ⟨z, hz1, rfl⟩ := hu
      split at hz1
      · have hj : j < zs.length := by omega
        have hc := hcell j hj
        rw [addr_add] at hc
        rw [hc]
        have hzj : zs[j] = z := by rw [List.getElem?_eq_getElem hj] at hz1; simpa using hz1
        simp [hj, hzj]
      · cases hz1
end Go.Proofs.Ytegpaocoepcemaa

namespace Go.Proofs.Ytegpaocoepcemaa
set_option maxRecDepth 100000
open Go.RowKit

theorem isWord_le {n : Int} (h : isWord n = true) : decide (n ≤ 65535) = true := by
  have := isWord_iff.1 h
  simp; omega

theorem folded2 {a b : Int} (ha : isWord a = true) (hb : isWord b = true) : folded [a, b] = sadd a b := by
  rw [folded_yes (by simp [ha, hb]), sums, List.foldl_cons, sadd_zero ha]
  rfl

end Go.Proofs.Ytegpaocoepcemaa

namespace Go.Proofs.Ytegpaocoepcemaa
set_option maxRecDepth 100000
open Go.RowKit

set_option maxHeartbeats 400000 in
theorem compC (n : Int) (w : World) : Calls Try.prog 115 #[.int .i64 n] w fun e w' => e = .returned (.int .i64 (comp n)) ∧ w = w' := by
  cases h : isWord n with
  | true =>
    have H := Lib.hid (comp_yes h)
    have hr := isWord_iff.1 h
    obtain ⟨r1, r2⟩ := hr
    clear h
    go_enter Try.func115, Try.ntmps115
    go_wp2_with (go_at_call 41; refine (within_yes _ _ _ _ (by omega) (by omega)).mono ?_; rintro e w' ⟨rfl, rfl⟩)
    go_ret
    exact ⟨ret_int H.out.symm, rfl⟩
  | false =>
    have H := Lib.hid (comp_no h)
    have hr := Lib.hid (isWord_not.1 h)
    clear h
    go_enter Try.func115, Try.ntmps115
    go_wp2_with (go_at_call 41; refine (within_no _ _ _ _ hr.out).mono ?_; rintro e w' ⟨rfl, rfl⟩)
    go_ret
    exact ⟨ret_int H.out.symm, rfl⟩

set_option maxHeartbeats 1000000 in
theorem foldedC (A : Option Addr) (n c : Nat) (ws : List Int) (w : World) (hr : RV w w.heap.size A (intsOf ws)) (hl : ws.length = n) (hn : n ≤ 1048576) :
    Calls Try.prog 118 #[.slice A n c] w fun e w' => e = .returned (.int .i64 (folded ws)) ∧ w = w' := by
  subst hl
  go_enter Try.func118, Try.ntmps118
  go_wp2
  go_loop [3, 8] (fun s i => ∃ k : Nat, k ≤ ws.length ∧ i = .int .i64 k ∧ (ws.take k).all isWord = true ∧ s = .int .i64 (sums 0 (ws.take k))) (fun _ i => ws.length - (intOf i).toNat)
  case atStart => exact ⟨0, Nat.zero_le _, rfl, rfl, rfl⟩
  case round =>
    obtain ⟨k, hk, rfl, hall, rfl⟩ := hrel
    by_cases hlt : k < ws.length
    · obtain ⟨g, o, rfl, hg, hc⟩ := hr.int hlt
      obtain ⟨s0, s1⟩ := isWord_iff.1 (sums_word _ 0 (by decide) hall)
      cases hx : isWord ws[k] with
      | true =>
        obtain ⟨x0, x1⟩ := isWord_iff.1 hx
        have Hall := Lib.hid (all_take_snoc ws k hlt hall hx)
        have Hs := Lib.hid (show sums 0 (ws.take (k + 1)) = sadd (sums 0 (ws.take k)) ws[k] by rw [take_snoc ws k hlt, sums_snoc])
        obtain ⟨s, hs⟩ : ∃ s, s = sums 0 (ws.take k) := ⟨_, rfl⟩
        obtain ⟨x, hx'⟩ : ∃ x, x = ws[k] := ⟨_, rfl⟩
        rw [← hs, ← hx'] at Hs
        rw [← hs] at s0 s1
        rw [← hx'] at x0 x1 hc
        rw [← hs]
        clear hs hx hx' hall hr
        by_cases hbig : 65535 < s + x
        · have e := Lib.hid (show sadd s x = s + x - 65535 by rw [sadd, if_pos hbig])
          go_wp2_with (go_at_call 41; refine (within_yes _ _ _ _ (by omega) (by omega)).mono ?_; rintro e w' ⟨rfl, rfl⟩)
          go_round
          case rel => exact ⟨k + 1, by omega, by go_num, Hall.out, by rw [Hs.out, e.out]⟩
          case measure => simp [intOf]; omega
        · have e := Lib.hid (show sadd s x = s + x by rw [sadd, if_neg hbig])
          go_wp2_with (go_at_call 41; refine (within_yes _ _ _ _ (by omega) (by omega)).mono ?_; rintro e w' ⟨rfl, rfl⟩)
          go_round
          case rel => exact ⟨k + 1, by omega, by go_num, Hall.out, by rw [Hs.out, e.out]⟩
          case measure => simp [intOf]; omega
      | false =>
        have H := Lib.hid (folded_no k hlt hx)
        have hno := Lib.hid (isWord_not.1 hx)
        clear hall hx hr
        go_wp2_with (go_at_call 41; refine (within_no _ _ _ _ hno.out).mono ?_; rintro e w' ⟨rfl, rfl⟩)
        go_ret
        exact ⟨ret_int H.out.symm, rfl⟩
    · obtain rfl : k = ws.length := by omega
      rw [List.take_length] at hall
      have H := Lib.hid (folded_yes hall)
      rw [List.take_length]
      clear hall
      go_wp2
      go_ret
      exact ⟨ret_int H.out.symm, rfl⟩

/-- The row of words as it is being filled. -/
def wRow (bs : List UInt8) (k : Nat) : List Int := wordsL (bs.take k) ++ List.replicate ((bs.length + 1) / 2 - (k + 1) / 2) 0
theorem wRow_zero (bs : List UInt8) : wRow bs 0 = List.replicate ((bs.length + 1) / 2) 0 := by simp [wRow, wordsL]
theorem wRow_full (bs : List UInt8) : wRow bs bs.length = wordsL bs := by simp [wRow]
theorem wRow_length (bs : List UInt8) (k : Nat) (h : k ≤ bs.length) : (wRow bs k).length = (bs.length + 1) / 2 := by
  rw [wRow, List.length_append, wordsL_length, List.length_replicate, List.length_take, Nat.min_eq_left h]
  omega
theorem wRow_even (bs : List UInt8) (k : Nat) (h : k < bs.length) (he : k % 2 = 0) :
    (intsOf (wRow bs k)).set (k / 2) (.int .i64 ((bs[k].toNat : Int) * 256)) = intsOf (wRow bs (k + 1)) := by
  rw [wRow, wRow, show (bs.length + 1) / 2 - (k + 1) / 2 = ((bs.length + 1) / 2 - (k + 1 + 1) / 2) + 1 by omega, List.replicate_succ, int_fill _ _ _ _ (k / 2) (by rw [wordsL_length, List.length_take]; omega), wordsL_even bs k h he, Int.mul_comm]
theorem wRow_get (bs : List UInt8) (k : Nat) (h : k < bs.length) (he : k % 2 = 1) : (wRow bs k)[k / 2]? = some (256 * (bs[k - 1].toNat : Int)) := by
  have e := wordsL_even bs (k - 1) (by omega) (by omega)
  rw [show k - 1 + 1 = k by omega] at e
  rw [wRow, e, List.append_assoc, List.getElem?_append_right (by rw [wordsL_length, List.length_take]; omega), wordsL_length, List.length_take, show k / 2 - (min (k - 1) bs.length + 1) / 2 = 0 by omega]
  rfl
theorem wRow_odd (bs : List UInt8) (k : Nat) (h : k < bs.length) (he : k % 2 = 1) :
    (intsOf (wRow bs k)).set (k / 2) (.int .i64 ((bs[k - 1].toNat : Int) * 256 + bs[k].toNat)) = intsOf (wRow bs (k + 1)) := by
  have e := wordsL_even bs (k - 1) (by omega) (by omega)
  have e2 := wordsL_odd bs (k - 1) (by omega) (by omega)
  have e3 : bs[k - 1 + 1]'(by omega) = bs[k] := by congr 1; omega
  rw [show k - 1 + 1 = k by omega] at e
  rw [e3, show k - 1 + 2 = k + 1 by omega] at e2
  rw [wRow, wRow, e, e2, show (k + 1 + 1) / 2 = (k + 1) / 2 by omega, List.append_assoc, List.singleton_append, int_fill _ _ _ _ (k / 2) (by rw [wordsL_length, List.length_take]; omega), Int.mul_comm]

set_option maxRecDepth 100000 in
set_option maxHeartbeats 1000000 in
theorem wordsOfC (A : Option Addr) (c : Nat) (bs : List UInt8) (w : World) (hr : RB w w.heap.size A bs) (hn : bs.length ≤ 1048576) :
    Calls Try.prog 119 #[.slice A bs.length c] w fun e w' => e = .returned (.slice (some ⟨w.heap.size, 0, none⟩) ((bs.length + 1) / 2) ((bs.length + 1) / 2)) ∧
      w'.ownsRow w.heap.size 3 1 (.slice (some ⟨w.heap.size, 0, none⟩) ((bs.length + 1) / 2) ((bs.length + 1) / 2)) ((bs.length + 1) / 2) (intsOf (wordsL bs)) ∧ Below w.heap.size w w' := by
  obtain ⟨i0, hi0, hz0, hz1, hz2⟩ := info_parts info_int
  go_enter Try.func119, Try.ntmps119
  go_wp2_with (at_make; refine wpList_make_full _ rfl _ _ 113 rfl w.heap.size 3 i0 (.int .i64 0) 1 Try.underlying113 hi0 hz0 hz1 _ _ _ _ ((bs.length + 1) / 2) rfl rfl (by omega) (by omega) (by rw [hz2]; omega) (by unfold maxLen; omega) (Nat.le_refl _) ?_; intro w1 hown hgrow)
  have hown0 : w1.ownsRow w.heap.size 3 1 (.slice (some ⟨w.heap.size, 0, none⟩) ((bs.length + 1) / 2) ((bs.length + 1) / 2)) ((bs.length + 1) / 2) (intsOf (wRow bs 0)) := by
    have e : (madeCells (Value.int IntKind.i64 0).cells ((bs.length + 1) / 2 * 1)).toList = intsOf (wRow bs 0) := by
      rw [wRow_zero]
      have := toList_madeCells_one (.int .i64 0) ((bs.length + 1) / 2)
      simpa [Value.cells, intsOf] using this
    rw [← e]; exact hown
  have hb1 : Below w.heap.size w w1 := (Below.refl _ _).grown hgrow (Nat.le_refl _) (by simp)
  clear hown hgrow
  go_loopw [13] (fun i wr => ∃ k : Nat, k ≤ bs.length ∧ i = .int .i64 k ∧ wr.ownsRow w.heap.size 3 1 (.slice (some ⟨w.heap.size, 0, none⟩) ((bs.length + 1) / 2) ((bs.length + 1) / 2)) ((bs.length + 1) / 2) (intsOf (wRow bs k)) ∧ Below w.heap.size w wr) (fun i _ => bs.length - (intOf i).toNat)
  case atStart => exact ⟨0, Nat.zero_le _, rfl, hown0, hb1⟩
  case round =>
    obtain ⟨k, hk, rfl, ho, hb⟩ := hrel
    clear hown0 hb1
    by_cases hlt : k < bs.length
    · obtain ⟨g, o, rfl, hg, hc0⟩ := hr.at_ hlt
      have hc : wr.cell? ⟨g, o + k, none⟩ = some (.int .u8 (bs[k].toNat : Int)) := (hb.cell (p := ⟨g, o + k, none⟩) hg).trans hc0
      have hb8 : bs[k].toNat < 256 := UInt8.toNat_lt _
      have hi2 : k / 2 < (bs.length + 1) / 2 := by omega
      have hfz := ho.frozenAt (k / 2)
      by_cases he : k % 2 = 0
      · have het : ((k : Int) % 2 == 0) = true := by simp; omega
        obtain ⟨u, hu⟩ : ∃ u, wr.cell? ⟨w.heap.size, k / 2, none⟩ = some u := by
          rw [ho.cellAt (k / 2) (by omega)]
          exact ⟨_, List.getElem?_eq_getElem (by rw [intsOf_length, wRow_length bs k hk]; omega)⟩
        have R := ho.stored (k / 2) (.int .i64 ((bs[k].toNat : Int) * 256))
        rw [wRow_even bs k hlt he] at R
        have R1 := Lib.hid R.1
        have R2 := Lib.hid (hb.setCell (p := ⟨w.heap.size, k / 2, none⟩) (Nat.le_refl _) (.int .i64 ((bs[k].toNat : Int) * 256)))
        clear R ho hc0 hr hb he
        go_wp2
        go_roundw
        case rel => exact ⟨k + 1, by omega, by go_num, R1.out, R2.out⟩
        case measure => simp [intOf]; omega
      · have hef : ((k : Int) % 2 == 0) = false := by simp; omega
        have hb7 : (bs[k - 1]'(by omega)).toNat < 256 := UInt8.toNat_lt _
        have hcell : wr.cell? ⟨w.heap.size, k / 2, none⟩ = some (.int .i64 ((bs[k - 1].toNat : Int) * 256)) := by
          rw [ho.cellAt (k / 2) (by omega), intsOf_get _ _ _ (wRow_get bs k hlt (by omega)), Int.mul_comm]
        have hor := or_byte (bs[k - 1]'(by omega)).toNat bs[k].toNat (by omega) hb8
        have R := ho.stored (k / 2) (.int .i64 ((bs[k - 1].toNat : Int) * 256 + bs[k].toNat))
        rw [wRow_odd bs k hlt (by omega)] at R
        have R1 := Lib.hid R.1
        have R2 := Lib.hid (hb.setCell (p := ⟨w.heap.size, k / 2, none⟩) (Nat.le_refl _) (.int .i64 ((bs[k - 1].toNat : Int) * 256 + bs[k].toNat)))
        clear R ho hc0 hr hb he
        go_wp2
        go_roundw
        case rel => exact ⟨k + 1, by omega, by go_num, R1.out, R2.out⟩
        case measure => simp [intOf]; omega
    · obtain rfl : k = bs.length := by omega
      rw [wRow_full] at ho
      have Ho := Lib.hid ho
      clear ho
      go_wp2
      go_ret
      exact ⟨rfl, Ho.out, hb⟩

set_option maxHeartbeats 400000 in
theorem implOnes (A : Option Addr) (n c : Nat) (bs : List UInt8) (w : World) (hr : RB w w.heap.size A bs) (hl : bs.length = n) (hn : n ≤ 1048576) :
    Calls Try.prog 116 #[.slice A n c] w fun e w' => e = .returned (.int .i64 (onesSum bs)) ∧ Below w.heap.size w w' := by
  subst hl
  by_cases h : 2000 < bs.length
  · have H := Lib.hid (show onesSum bs = -1 by rw [onesSum, if_pos h])
    go_enter Try.func116, Try.ntmps116
    go_wp2
    go_ret
    exact ⟨ret_int H.out.symm, Below.refl _ _⟩
  · have H := Lib.hid (show onesSum bs = folded (wordsL bs) by rw [onesSum, if_neg h, folded_yes (wordsL_word bs)])
    have hl := wordsL_length bs
    go_enter Try.func116, Try.ntmps116
    go_wp2_with fail
    refine (wordsOfC A c bs w hr hn).mono ?_
    rintro e w1 ⟨rfl, o1, b1⟩
    go_wp2_with fail
    refine (foldedC _ _ _ (wordsL bs) w1 (RV.of_own o1) hl (by omega)).mono ?_
    rintro e w2 ⟨rfl, rfl⟩
    go_wp2
    go_ret
    exact ⟨ret_int H.out.symm, b1⟩

set_option maxHeartbeats 400000 in
theorem implCheck (A : Option Addr) (n c : Nat) (bs : List UInt8) (w : World) (hr : RB w w.heap.size A bs) (hl : bs.length = n) (hn : n ≤ 1048576) :
    Calls Try.prog 101 #[.slice A n c] w fun e w' => e = .returned (.int .i64 (checksum bs)) ∧ Below w.heap.size w w' := by
  go_enter Try.func101, Try.ntmps101
  go_wp2_with fail
  refine (implOnes A n c bs w hr hl hn).mono ?_
  rintro e w1 ⟨rfl, b1⟩
  go_wp2_with fail
  refine (compC _ w1).mono ?_
  rintro e w2 ⟨rfl, rfl⟩
  go_wp2
  go_ret
  exact ⟨rfl, b1⟩

end Go.Proofs.Ytegpaocoepcemaa

namespace Go.Proofs.Ytegpaocoepcemaa
set_option maxRecDepth 100000
open Go.RowKit

set_option maxRecDepth 100000 in
set_option maxHeartbeats 1000000 in
theorem sumI_no (x : Fh) (A D : Option Addr) (n c m d : Nat) (os : List UInt8) (w : World) (hl : os.length = n) (hok : x.ok n m = false) : Calls Try.prog 75 #[.agg #[.int .i64 x.dscp, .int .i64 x.ecn, .int .i64 x.id, .int .i64 x.flags, .int .i64 x.frag, .int .i64 x.ttl, .int .i64 x.proto, .int .i64 x.src.k, .int .i64 x.src.a, .int .i64 x.src.b, .int .i64 x.src.c, .int .i64 x.src.d, .int .i64 x.dst.k, .int .i64 x.dst.a, .int .i64 x.dst.b, .int .i64 x.dst.c, .int .i64 x.dst.d, .slice A n c, .slice D m d]] w fun e w' => e = .returned (.int .i64 (x.sum os m)) ∧ Below w.heap.size w w' := by
  have SO := Lib.hid (fun w => show Calls Try.prog 100 #[.agg #[.int .i64 x.dscp, .int .i64 x.ecn, .int .i64 x.id, .int .i64 x.flags, .int .i64 x.frag, .int .i64 x.ttl, .int .i64 x.proto, .int .i64 x.src.k, .int .i64 x.src.a, .int .i64 x.src.b, .int .i64 x.src.c, .int .i64 x.src.d, .int .i64 x.dst.k, .int .i64 x.dst.a, .int .i64 x.dst.b, .int .i64 x.dst.c, .int .i64 x.dst.d, .slice A n c, .slice D m d]] w fun e w' => e = .returned (.bool false) ∧ Below w.heap.size w w' from hok ▸ implFourOk x A D n c m d _)
  have H := Lib.hid (show x.sum os m = -1 by simp [Fh.sum, hl, hok])
  clear hok hl
  have q := Lib.hid (K.new w (.cells #[.int .i64 x.dscp, .int .i64 x.ecn, .int .i64 x.id, .int .i64 x.flags, .int .i64 x.frag, .int .i64 x.ttl, .int .i64 x.proto, .int .i64 x.src.k, .int .i64 x.src.a, .int .i64 x.src.b, .int .i64 x.src.c, .int .i64 x.src.d, .int .i64 x.dst.k, .int .i64 x.dst.a, .int .i64 x.dst.b, .int .i64 x.dst.c, .int .i64 x.dst.d, .slice A n c, .slice D m d] 52))
  go_enter Try.func75, Try.ntmps75
  go_wp2_with (with_reducible refine loadF rfl _ rfl w.heap.size rfl q.out ?_)
  refine Calls.mono (SO.out _) ?_
  rintro e w1 ⟨rfl, b1⟩
  have B := Lib.hid (bthen (Joins.below_alloc1 w _) b1)
  clear b1
  go_wp2
  go_ret
  exact ⟨ret_int H.out.symm, B.out⟩

set_option maxRecDepth 100000 in
set_option maxHeartbeats 1000000 in
theorem sumI_yes (x : Fh) (A D : Option Addr) (n c m d : Nat) (os : List UInt8) (w : World) (hr : RB w w.heap.size A os) (hl : os.length = n) (hok : x.ok n m = true) : Calls Try.prog 75 #[.agg #[.int .i64 x.dscp, .int .i64 x.ecn, .int .i64 x.id, .int .i64 x.flags, .int .i64 x.frag, .int .i64 x.ttl, .int .i64 x.proto, .int .i64 x.src.k, .int .i64 x.src.a, .int .i64 x.src.b, .int .i64 x.src.c, .int .i64 x.src.d, .int .i64 x.dst.k, .int .i64 x.dst.a, .int .i64 x.dst.b, .int .i64 x.dst.c, .int .i64 x.dst.d, .slice A n c, .slice D m d]] w fun e w' => e = .returned (.int .i64 (x.sum os m)) ∧ Below w.heap.size w w' := by
  have SO := Lib.hid (fun w => show Calls Try.prog 100 #[.agg #[.int .i64 x.dscp, .int .i64 x.ecn, .int .i64 x.id, .int .i64 x.flags, .int .i64 x.frag, .int .i64 x.ttl, .int .i64 x.proto, .int .i64 x.src.k, .int .i64 x.src.a, .int .i64 x.src.b, .int .i64 x.src.c, .int .i64 x.src.d, .int .i64 x.dst.k, .int .i64 x.dst.a, .int .i64 x.dst.b, .int .i64 x.dst.c, .int .i64 x.dst.d, .slice A n c, .slice D m d]] w fun e w' => e = .returned (.bool true) ∧ Below w.heap.size w w' from hok ▸ implFourOk x A D n c m d _)
  have H := Lib.hid (show x.sum os m = checksum (x.head 0 os m) by simp [Fh.sum, hl, hok])
  have EL := Lib.hid (show (x.head 0 os m).length = 20 + n by rw [Fh.head_length, hl])
  have hn40 : n ≤ 40 := ((x.ok_iff n m).1 hok).2.2.2.1.1
  have HO := Lib.hid hok
  have HR := Lib.hid hr
  have HL := Lib.hid hl
  clear hok hr hl
  have q := Lib.hid (K.new w (.cells #[.int .i64 x.dscp, .int .i64 x.ecn, .int .i64 x.id, .int .i64 x.flags, .int .i64 x.frag, .int .i64 x.ttl, .int .i64 x.proto, .int .i64 x.src.k, .int .i64 x.src.a, .int .i64 x.src.b, .int .i64 x.src.c, .int .i64 x.src.d, .int .i64 x.dst.k, .int .i64 x.dst.a, .int .i64 x.dst.b, .int .i64 x.dst.c, .int .i64 x.dst.d, .slice A n c, .slice D m d] 52))
  go_enter Try.func75, Try.ntmps75
  go_wp2_with (with_reducible refine loadF rfl _ rfl w.heap.size rfl q.out ?_)
  refine Calls.mono (SO.out _) ?_
  rintro e w1 ⟨rfl, b1⟩
  have q1 := Lib.hid (K.below b1 q.out)
  have B := Lib.hid (bthen (Joins.below_alloc1 w _) b1)
  clear b1
  go_wp2_with (with_reducible refine loadF rfl _ rfl w.heap.size rfl q1.out ?_)
  refine Calls.mono (headIC x A D n c m d os 0 _ ((HR.out.below B.out).more B.out.size) HL.out HO.out) ?_
  rintro e w2 ⟨A2, c2, rfl, o2, b2⟩
  have B2 := Lib.hid (bthen B.out b2)
  have R2 := Lib.hid (RB.of_own o2)
  clear o2 b2
  go_wp2_with fail
  refine Calls.mono (implCheck A2 (20 + n) c2 (x.head 0 os m) _ R2.out EL.out (by omega)) ?_
  rintro e w3 ⟨rfl, b3⟩
  have B3 := Lib.hid (bthen B2.out b3)
  clear b3
  go_wp2
  go_ret
  exact ⟨ret_int H.out.symm, B3.out⟩

theorem sumIC (x : Fh) (A D : Option Addr) (n c m d : Nat) (os : List UInt8) (w : World) (hr : RB w w.heap.size A os) (hl : os.length = n) : Calls Try.prog 75 #[.agg #[.int .i64 x.dscp, .int .i64 x.ecn, .int .i64 x.id, .int .i64 x.flags, .int .i64 x.frag, .int .i64 x.ttl, .int .i64 x.proto, .int .i64 x.src.k, .int .i64 x.src.a, .int .i64 x.src.b, .int .i64 x.src.c, .int .i64 x.src.d, .int .i64 x.dst.k, .int .i64 x.dst.a, .int .i64 x.dst.b, .int .i64 x.dst.c, .int .i64 x.dst.d, .slice A n c, .slice D m d]] w fun e w' => e = .returned (.int .i64 (x.sum os m)) ∧ Below w.heap.size w w' := by
  cases hok : x.ok n m
  · exact sumI_no x A D n c m d os w hl hok
  · exact sumI_yes x A D n c m d os w hr hl hok
end Go.Proofs.Ytegpaocoepcemaa
