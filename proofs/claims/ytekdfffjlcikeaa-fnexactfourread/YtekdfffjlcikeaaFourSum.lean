/-
  FourPiece and HeadSum, in the model and in the program.
-/
import Derived.Test.YtekdfffjlcikeaaFourOkS
import Derived.Test.YtekdfffjlcikeaaFourOkI
import Derived.Test.YtekdfffjlcikeaaFourHeadS
import Derived.Test.YtekdfffjlcikeaaFourHeadI
import Derived.Test.YtekdfffjlcikeaaSumSpec
import Derived.Test.YtekdfffjlcikeaaSumImpl
namespace Go.Proofs.Ytekdfffjlcikeaa
open Go.RowKit

set_option maxRecDepth 100000 in
set_option maxHeartbeats 1000000 in
theorem pieceS_no (x : Fh) (A D : Option Addr) (n c m d : Nat) (w : World) (hn : n ≤ 1048576) (hok : x.ok n m = false) : Calls Try.prog 11 #[.agg #[.int .i64 x.dscp, .int .i64 x.ecn, .int .i64 x.id, .int .i64 x.flags, .int .i64 x.frag, .int .i64 x.ttl, .int .i64 x.proto, .int .i64 x.src.k, .int .i64 x.src.a, .int .i64 x.src.b, .int .i64 x.src.c, .int .i64 x.src.d, .int .i64 x.dst.k, .int .i64 x.dst.a, .int .i64 x.dst.b, .int .i64 x.dst.c, .int .i64 x.dst.d, .slice A n c, .slice D m d]] w fun e w' => e = .returned (.bool (x.piece n m)) ∧ Below w.heap.size w w' := by
  have SO := Lib.hid (fun w => show Calls Try.prog 15 #[.agg #[.int .i64 x.dscp, .int .i64 x.ecn, .int .i64 x.id, .int .i64 x.flags, .int .i64 x.frag, .int .i64 x.ttl, .int .i64 x.proto, .int .i64 x.src.k, .int .i64 x.src.a, .int .i64 x.src.b, .int .i64 x.src.c, .int .i64 x.src.d, .int .i64 x.dst.k, .int .i64 x.dst.a, .int .i64 x.dst.b, .int .i64 x.dst.c, .int .i64 x.dst.d, .slice A n c, .slice D m d]] w fun e w' => e = .returned (.bool false) ∧ Below w.heap.size w w' from hok ▸ specFourOk x A D n c m d _ hn)
  have H := Lib.hid (show x.piece n m = false by simp only [Fh.piece, hok, Bool.false_and])
  clear hok
  have q := Lib.hid (K.new w (.cells #[.int .i64 x.dscp, .int .i64 x.ecn, .int .i64 x.id, .int .i64 x.flags, .int .i64 x.frag, .int .i64 x.ttl, .int .i64 x.proto, .int .i64 x.src.k, .int .i64 x.src.a, .int .i64 x.src.b, .int .i64 x.src.c, .int .i64 x.src.d, .int .i64 x.dst.k, .int .i64 x.dst.a, .int .i64 x.dst.b, .int .i64 x.dst.c, .int .i64 x.dst.d, .slice A n c, .slice D m d] 31))
  go_enter Try.func11, Try.ntmps11
  go_wp2_with (with_reducible refine loadF rfl _ rfl w.heap.size rfl q.out ?_)
  refine Calls.mono (SO.out _) ?_
  rintro e w1 ⟨rfl, b1⟩
  have B := Lib.hid (bthen (Joins.below_alloc1 w _) b1)
  clear b1
  go_wp2
  go_ret
  exact ⟨ret_bool H.out.symm, B.out⟩

set_option maxRecDepth 100000 in
set_option maxHeartbeats 1000000 in
theorem pieceS_yes (x : Fh) (A D : Option Addr) (n c m d : Nat) (w : World) (hn : n ≤ 1048576) (hok : x.ok n m = true) : Calls Try.prog 11 #[.agg #[.int .i64 x.dscp, .int .i64 x.ecn, .int .i64 x.id, .int .i64 x.flags, .int .i64 x.frag, .int .i64 x.ttl, .int .i64 x.proto, .int .i64 x.src.k, .int .i64 x.src.a, .int .i64 x.src.b, .int .i64 x.src.c, .int .i64 x.src.d, .int .i64 x.dst.k, .int .i64 x.dst.a, .int .i64 x.dst.b, .int .i64 x.dst.c, .int .i64 x.dst.d, .slice A n c, .slice D m d]] w fun e w' => e = .returned (.bool (x.piece n m)) ∧ Below w.heap.size w w' := by
  have SO := Lib.hid (fun w => show Calls Try.prog 15 #[.agg #[.int .i64 x.dscp, .int .i64 x.ecn, .int .i64 x.id, .int .i64 x.flags, .int .i64 x.frag, .int .i64 x.ttl, .int .i64 x.proto, .int .i64 x.src.k, .int .i64 x.src.a, .int .i64 x.src.b, .int .i64 x.src.c, .int .i64 x.src.d, .int .i64 x.dst.k, .int .i64 x.dst.a, .int .i64 x.dst.b, .int .i64 x.dst.c, .int .i64 x.dst.d, .slice A n c, .slice D m d]] w fun e w' => e = .returned (.bool true) ∧ Below w.heap.size w w' from hok ▸ specFourOk x A D n c m d _ hn)
  have H := Lib.hid (show x.piece n m = decide (x.frag ≠ 0 ∨ x.flags % 2 = 1) by simp only [Fh.piece, hok, Bool.true_and])
  obtain ⟨⟨_, _, _, ⟨hf0, hf1⟩, ⟨hg0, hg1⟩, _, _⟩, _⟩ := (x.ok_iff n m).1 hok
  clear hok
  have q := Lib.hid (K.new w (.cells #[.int .i64 x.dscp, .int .i64 x.ecn, .int .i64 x.id, .int .i64 x.flags, .int .i64 x.frag, .int .i64 x.ttl, .int .i64 x.proto, .int .i64 x.src.k, .int .i64 x.src.a, .int .i64 x.src.b, .int .i64 x.src.c, .int .i64 x.src.d, .int .i64 x.dst.k, .int .i64 x.dst.a, .int .i64 x.dst.b, .int .i64 x.dst.c, .int .i64 x.dst.d, .slice A n c, .slice D m d] 31))
  go_enter Try.func11, Try.ntmps11
  go_wp2_with (with_reducible refine loadF rfl _ rfl w.heap.size rfl q.out ?_)
  refine Calls.mono (SO.out _) ?_
  rintro e w1 ⟨rfl, b1⟩
  have q1 := Lib.hid (K.below b1 q.out)
  have B := Lib.hid (bthen (Joins.below_alloc1 w _) b1)
  clear b1
  have z3 := K.cell q1.out 3 _ rfl
  have z4 := K.cell q1.out 4 _ rfl
  by_cases h : x.frag = 0
  all_goals
    go_wp2
    go_ret
    refine ⟨ret_bool ?_, B.out⟩
    rw [H.out, Bool.eq_iff_iff]
    simp
    omega

theorem pieceSC (x : Fh) (A D : Option Addr) (n c m d : Nat) (w : World) (hn : n ≤ 1048576) : Calls Try.prog 11 #[.agg #[.int .i64 x.dscp, .int .i64 x.ecn, .int .i64 x.id, .int .i64 x.flags, .int .i64 x.frag, .int .i64 x.ttl, .int .i64 x.proto, .int .i64 x.src.k, .int .i64 x.src.a, .int .i64 x.src.b, .int .i64 x.src.c, .int .i64 x.src.d, .int .i64 x.dst.k, .int .i64 x.dst.a, .int .i64 x.dst.b, .int .i64 x.dst.c, .int .i64 x.dst.d, .slice A n c, .slice D m d]] w fun e w' => e = .returned (.bool (x.piece n m)) ∧ Below w.heap.size w w' := by
  cases hok : x.ok n m
  · exact pieceS_no x A D n c m d w hn hok
  · exact pieceS_yes x A D n c m d w hn hok

set_option maxRecDepth 100000 in
set_option maxHeartbeats 1000000 in
theorem sumS_no (x : Fh) (A D : Option Addr) (n c m d : Nat) (os : List UInt8) (w : World) (hn : n ≤ 1048576) (hl : os.length = n) (hok : x.ok n m = false) : Calls Try.prog 17 #[.agg #[.int .i64 x.dscp, .int .i64 x.ecn, .int .i64 x.id, .int .i64 x.flags, .int .i64 x.frag, .int .i64 x.ttl, .int .i64 x.proto, .int .i64 x.src.k, .int .i64 x.src.a, .int .i64 x.src.b, .int .i64 x.src.c, .int .i64 x.src.d, .int .i64 x.dst.k, .int .i64 x.dst.a, .int .i64 x.dst.b, .int .i64 x.dst.c, .int .i64 x.dst.d, .slice A n c, .slice D m d]] w fun e w' => e = .returned (.int .i64 (x.sum os m)) ∧ Below w.heap.size w w' := by
  have SO := Lib.hid (fun w => show Calls Try.prog 15 #[.agg #[.int .i64 x.dscp, .int .i64 x.ecn, .int .i64 x.id, .int .i64 x.flags, .int .i64 x.frag, .int .i64 x.ttl, .int .i64 x.proto, .int .i64 x.src.k, .int .i64 x.src.a, .int .i64 x.src.b, .int .i64 x.src.c, .int .i64 x.src.d, .int .i64 x.dst.k, .int .i64 x.dst.a, .int .i64 x.dst.b, .int .i64 x.dst.c, .int .i64 x.dst.d, .slice A n c, .slice D m d]] w fun e w' => e = .returned (.bool false) ∧ Below w.heap.size w w' from hok ▸ specFourOk x A D n c m d _ hn)
  have H := Lib.hid (show x.sum os m = -1 by simp [Fh.sum, hl, hok])
  clear hok hl
  have q := Lib.hid (K.new w (.cells #[.int .i64 x.dscp, .int .i64 x.ecn, .int .i64 x.id, .int .i64 x.flags, .int .i64 x.frag, .int .i64 x.ttl, .int .i64 x.proto, .int .i64 x.src.k, .int .i64 x.src.a, .int .i64 x.src.b, .int .i64 x.src.c, .int .i64 x.src.d, .int .i64 x.dst.k, .int .i64 x.dst.a, .int .i64 x.dst.b, .int .i64 x.dst.c, .int .i64 x.dst.d, .slice A n c, .slice D m d] 31))
  go_enter Try.func17, Try.ntmps17
  go_wp2_with (with_reducible refine loadF rfl _ rfl w.heap.size rfl q.out ?_)
  refine Calls.mono (SO.out _) ?_
  rintro e w1 ⟨rfl, b1⟩
  have B := Lib.hid (bthen (Joins.below_alloc1 w _) b1)
  clear b1
  go_wp2
  go_ret
  exact ⟨ret_int H.out.symm, B.out⟩

set_option maxRecDepth 100000 in
set_option maxHeartbeats 1000000 in
theorem sumS_yes (x : Fh) (A D : Option Addr) (n c m d : Nat) (os : List UInt8) (w : World) (hn : n ≤ 1048576) (hr : RB w w.heap.size A os) (hl : os.length = n) (hok : x.ok n m = true) : Calls Try.prog 17 #[.agg #[.int .i64 x.dscp, .int .i64 x.ecn, .int .i64 x.id, .int .i64 x.flags, .int .i64 x.frag, .int .i64 x.ttl, .int .i64 x.proto, .int .i64 x.src.k, .int .i64 x.src.a, .int .i64 x.src.b, .int .i64 x.src.c, .int .i64 x.src.d, .int .i64 x.dst.k, .int .i64 x.dst.a, .int .i64 x.dst.b, .int .i64 x.dst.c, .int .i64 x.dst.d, .slice A n c, .slice D m d]] w fun e w' => e = .returned (.int .i64 (x.sum os m)) ∧ Below w.heap.size w w' := by
  have SO := Lib.hid (fun w => show Calls Try.prog 15 #[.agg #[.int .i64 x.dscp, .int .i64 x.ecn, .int .i64 x.id, .int .i64 x.flags, .int .i64 x.frag, .int .i64 x.ttl, .int .i64 x.proto, .int .i64 x.src.k, .int .i64 x.src.a, .int .i64 x.src.b, .int .i64 x.src.c, .int .i64 x.src.d, .int .i64 x.dst.k, .int .i64 x.dst.a, .int .i64 x.dst.b, .int .i64 x.dst.c, .int .i64 x.dst.d, .slice A n c, .slice D m d]] w fun e w' => e = .returned (.bool true) ∧ Below w.heap.size w w' from hok ▸ specFourOk x A D n c m d _ hn)
  have H := Lib.hid (show x.sum os m = checksum (x.head 0 os m) by simp [Fh.sum, hl, hok])
  have EL := Lib.hid (show (x.head 0 os m).length = 20 + n by rw [Fh.head_length, hl])
  have hn40 : n ≤ 40 := ((x.ok_iff n m).1 hok).2.2.2.1.1
  have HO := Lib.hid hok
  have HR := Lib.hid hr
  have HL := Lib.hid hl
  clear hok hr hl
  have q := Lib.hid (K.new w (.cells #[.int .i64 x.dscp, .int .i64 x.ecn, .int .i64 x.id, .int .i64 x.flags, .int .i64 x.frag, .int .i64 x.ttl, .int .i64 x.proto, .int .i64 x.src.k, .int .i64 x.src.a, .int .i64 x.src.b, .int .i64 x.src.c, .int .i64 x.src.d, .int .i64 x.dst.k, .int .i64 x.dst.a, .int .i64 x.dst.b, .int .i64 x.dst.c, .int .i64 x.dst.d, .slice A n c, .slice D m d] 31))
  go_enter Try.func17, Try.ntmps17
  go_wp2_with (with_reducible refine loadF rfl _ rfl w.heap.size rfl q.out ?_)
  refine Calls.mono (SO.out _) ?_
  rintro e w1 ⟨rfl, b1⟩
  have q1 := Lib.hid (K.below b1 q.out)
  have B := Lib.hid (bthen (Joins.below_alloc1 w _) b1)
  clear b1
  go_wp2_with (with_reducible refine loadF rfl _ rfl w.heap.size rfl q1.out ?_)
  refine Calls.mono (headSC x A D n c m d os 0 _ ((HR.out.below B.out).more B.out.size) HL.out HO.out) ?_
  rintro e w2 ⟨A2, c2, rfl, o2, b2⟩
  have B2 := Lib.hid (bthen B.out b2)
  have R2 := Lib.hid (RB.of_own o2)
  clear o2 b2
  go_wp2_with fail
  refine Calls.mono (specCheck A2 (20 + n) c2 (x.head 0 os m) _ R2.out EL.out (by omega)) ?_
  rintro e w3 ⟨rfl, b3⟩
  have B3 := Lib.hid (show Below w.heap.size w w3 from b3 ▸ B2.out)
  clear b3
  go_wp2
  go_ret
  exact ⟨ret_int H.out.symm, B3.out⟩

theorem sumSC (x : Fh) (A D : Option Addr) (n c m d : Nat) (os : List UInt8) (w : World) (hn : n ≤ 1048576) (hr : RB w w.heap.size A os) (hl : os.length = n) : Calls Try.prog 17 #[.agg #[.int .i64 x.dscp, .int .i64 x.ecn, .int .i64 x.id, .int .i64 x.flags, .int .i64 x.frag, .int .i64 x.ttl, .int .i64 x.proto, .int .i64 x.src.k, .int .i64 x.src.a, .int .i64 x.src.b, .int .i64 x.src.c, .int .i64 x.src.d, .int .i64 x.dst.k, .int .i64 x.dst.a, .int .i64 x.dst.b, .int .i64 x.dst.c, .int .i64 x.dst.d, .slice A n c, .slice D m d]] w fun e w' => e = .returned (.int .i64 (x.sum os m)) ∧ Below w.heap.size w w' := by
  cases hok : x.ok n m
  · exact sumS_no x A D n c m d os w hn hl hok
  · exact sumS_yes x A D n c m d os w hn hr hl hok

set_option maxRecDepth 100000 in
set_option maxHeartbeats 1000000 in
theorem pieceI_no (x : Fh) (A D : Option Addr) (n c m d : Nat) (w : World) (hok : x.ok n m = false) : Calls Try.prog 13 #[.agg #[.int .i64 x.dscp, .int .i64 x.ecn, .int .i64 x.id, .int .i64 x.flags, .int .i64 x.frag, .int .i64 x.ttl, .int .i64 x.proto, .int .i64 x.src.k, .int .i64 x.src.a, .int .i64 x.src.b, .int .i64 x.src.c, .int .i64 x.src.d, .int .i64 x.dst.k, .int .i64 x.dst.a, .int .i64 x.dst.b, .int .i64 x.dst.c, .int .i64 x.dst.d, .slice A n c, .slice D m d]] w fun e w' => e = .returned (.bool (x.piece n m)) ∧ Below w.heap.size w w' := by
  have SO := Lib.hid (fun w => show Calls Try.prog 16 #[.agg #[.int .i64 x.dscp, .int .i64 x.ecn, .int .i64 x.id, .int .i64 x.flags, .int .i64 x.frag, .int .i64 x.ttl, .int .i64 x.proto, .int .i64 x.src.k, .int .i64 x.src.a, .int .i64 x.src.b, .int .i64 x.src.c, .int .i64 x.src.d, .int .i64 x.dst.k, .int .i64 x.dst.a, .int .i64 x.dst.b, .int .i64 x.dst.c, .int .i64 x.dst.d, .slice A n c, .slice D m d]] w fun e w' => e = .returned (.bool false) ∧ Below w.heap.size w w' from hok ▸ implFourOk x A D n c m d _)
  have H := Lib.hid (show x.piece n m = false by simp only [Fh.piece, hok, Bool.false_and])
  clear hok
  have q := Lib.hid (K.new w (.cells #[.int .i64 x.dscp, .int .i64 x.ecn, .int .i64 x.id, .int .i64 x.flags, .int .i64 x.frag, .int .i64 x.ttl, .int .i64 x.proto, .int .i64 x.src.k, .int .i64 x.src.a, .int .i64 x.src.b, .int .i64 x.src.c, .int .i64 x.src.d, .int .i64 x.dst.k, .int .i64 x.dst.a, .int .i64 x.dst.b, .int .i64 x.dst.c, .int .i64 x.dst.d, .slice A n c, .slice D m d] 31))
  go_enter Try.func13, Try.ntmps13
  go_wp2_with (with_reducible refine loadF rfl _ rfl w.heap.size rfl q.out ?_)
  refine Calls.mono (SO.out _) ?_
  rintro e w1 ⟨rfl, b1⟩
  have B := Lib.hid (bthen (Joins.below_alloc1 w _) b1)
  clear b1
  go_wp2
  go_ret
  exact ⟨ret_bool H.out.symm, B.out⟩

set_option maxRecDepth 100000 in
set_option maxHeartbeats 1000000 in
theorem pieceI_yes (x : Fh) (A D : Option Addr) (n c m d : Nat) (w : World) (hok : x.ok n m = true) : Calls Try.prog 13 #[.agg #[.int .i64 x.dscp, .int .i64 x.ecn, .int .i64 x.id, .int .i64 x.flags, .int .i64 x.frag, .int .i64 x.ttl, .int .i64 x.proto, .int .i64 x.src.k, .int .i64 x.src.a, .int .i64 x.src.b, .int .i64 x.src.c, .int .i64 x.src.d, .int .i64 x.dst.k, .int .i64 x.dst.a, .int .i64 x.dst.b, .int .i64 x.dst.c, .int .i64 x.dst.d, .slice A n c, .slice D m d]] w fun e w' => e = .returned (.bool (x.piece n m)) ∧ Below w.heap.size w w' := by
  have SO := Lib.hid (fun w => show Calls Try.prog 16 #[.agg #[.int .i64 x.dscp, .int .i64 x.ecn, .int .i64 x.id, .int .i64 x.flags, .int .i64 x.frag, .int .i64 x.ttl, .int .i64 x.proto, .int .i64 x.src.k, .int .i64 x.src.a, .int .i64 x.src.b, .int .i64 x.src.c, .int .i64 x.src.d, .int .i64 x.dst.k, .int .i64 x.dst.a, .int .i64 x.dst.b, .int .i64 x.dst.c, .int .i64 x.dst.d, .slice A n c, .slice D m d]] w fun e w' => e = .returned (.bool true) ∧ Below w.heap.size w w' from hok ▸ implFourOk x A D n c m d _)
  have H := Lib.hid (show x.piece n m = decide (x.frag ≠ 0 ∨ x.flags % 2 = 1) by simp only [Fh.piece, hok, Bool.true_and])
  obtain ⟨⟨_, _, _, ⟨hf0, hf1⟩, ⟨hg0, hg1⟩, _, _⟩, _⟩ := (x.ok_iff n m).1 hok
  clear hok
  have q := Lib.hid (K.new w (.cells #[.int .i64 x.dscp, .int .i64 x.ecn, .int .i64 x.id, .int .i64 x.flags, .int .i64 x.frag, .int .i64 x.ttl, .int .i64 x.proto, .int .i64 x.src.k, .int .i64 x.src.a, .int .i64 x.src.b, .int .i64 x.src.c, .int .i64 x.src.d, .int .i64 x.dst.k, .int .i64 x.dst.a, .int .i64 x.dst.b, .int .i64 x.dst.c, .int .i64 x.dst.d, .slice A n c, .slice D m d] 31))
  go_enter Try.func13, Try.ntmps13
  go_wp2_with (with_reducible refine loadF rfl _ rfl w.heap.size rfl q.out ?_)
  refine Calls.mono (SO.out _) ?_
  rintro e w1 ⟨rfl, b1⟩
  have q1 := Lib.hid (K.below b1 q.out)
  have B := Lib.hid (bthen (Joins.below_alloc1 w _) b1)
  clear b1
  have z3 := K.cell q1.out 3 _ rfl
  have z4 := K.cell q1.out 4 _ rfl
  by_cases h : x.frag = 0
  all_goals
    go_wp2
    go_ret
    refine ⟨ret_bool ?_, B.out⟩
    rw [H.out, Bool.eq_iff_iff]
    simp
    omega

theorem pieceIC (x : Fh) (A D : Option Addr) (n c m d : Nat) (w : World) : Calls Try.prog 13 #[.agg #[.int .i64 x.dscp, .int .i64 x.ecn, .int .i64 x.id, .int .i64 x.flags, .int .i64 x.frag, .int .i64 x.ttl, .int .i64 x.proto, .int .i64 x.src.k, .int .i64 x.src.a, .int .i64 x.src.b, .int .i64 x.src.c, .int .i64 x.src.d, .int .i64 x.dst.k, .int .i64 x.dst.a, .int .i64 x.dst.b, .int .i64 x.dst.c, .int .i64 x.dst.d, .slice A n c, .slice D m d]] w fun e w' => e = .returned (.bool (x.piece n m)) ∧ Below w.heap.size w w' := by
  cases hok : x.ok n m
  · exact pieceI_no x A D n c m d w hok
  · exact pieceI_yes x A D n c m d w hok

set_option maxRecDepth 100000 in
set_option maxHeartbeats 1000000 in
theorem sumI_no (x : Fh) (A D : Option Addr) (n c m d : Nat) (os : List UInt8) (w : World) (hl : os.length = n) (hok : x.ok n m = false) : Calls Try.prog 18 #[.agg #[.int .i64 x.dscp, .int .i64 x.ecn, .int .i64 x.id, .int .i64 x.flags, .int .i64 x.frag, .int .i64 x.ttl, .int .i64 x.proto, .int .i64 x.src.k, .int .i64 x.src.a, .int .i64 x.src.b, .int .i64 x.src.c, .int .i64 x.src.d, .int .i64 x.dst.k, .int .i64 x.dst.a, .int .i64 x.dst.b, .int .i64 x.dst.c, .int .i64 x.dst.d, .slice A n c, .slice D m d]] w fun e w' => e = .returned (.int .i64 (x.sum os m)) ∧ Below w.heap.size w w' := by
  have SO := Lib.hid (fun w => show Calls Try.prog 16 #[.agg #[.int .i64 x.dscp, .int .i64 x.ecn, .int .i64 x.id, .int .i64 x.flags, .int .i64 x.frag, .int .i64 x.ttl, .int .i64 x.proto, .int .i64 x.src.k, .int .i64 x.src.a, .int .i64 x.src.b, .int .i64 x.src.c, .int .i64 x.src.d, .int .i64 x.dst.k, .int .i64 x.dst.a, .int .i64 x.dst.b, .int .i64 x.dst.c, .int .i64 x.dst.d, .slice A n c, .slice D m d]] w fun e w' => e = .returned (.bool false) ∧ Below w.heap.size w w' from hok ▸ implFourOk x A D n c m d _)
  have H := Lib.hid (show x.sum os m = -1 by simp [Fh.sum, hl, hok])
  clear hok hl
  have q := Lib.hid (K.new w (.cells #[.int .i64 x.dscp, .int .i64 x.ecn, .int .i64 x.id, .int .i64 x.flags, .int .i64 x.frag, .int .i64 x.ttl, .int .i64 x.proto, .int .i64 x.src.k, .int .i64 x.src.a, .int .i64 x.src.b, .int .i64 x.src.c, .int .i64 x.src.d, .int .i64 x.dst.k, .int .i64 x.dst.a, .int .i64 x.dst.b, .int .i64 x.dst.c, .int .i64 x.dst.d, .slice A n c, .slice D m d] 31))
  go_enter Try.func18, Try.ntmps18
  go_wp2_with (with_reducible refine loadF rfl _ rfl w.heap.size rfl q.out ?_)
  refine Calls.mono (SO.out _) ?_
  rintro e w1 ⟨rfl, b1⟩
  have B := Lib.hid (bthen (Joins.below_alloc1 w _) b1)
  clear b1
  go_wp2
  go_ret
  exact ⟨ret_int H.out.symm, B.out⟩

set_option maxRecDepth 100000 in
set_option maxHeartbeats 1000000 in
theorem sumI_yes (x : Fh) (A D : Option Addr) (n c m d : Nat) (os : List UInt8) (w : World) (hr : RB w w.heap.size A os) (hl : os.length = n) (hok : x.ok n m = true) : Calls Try.prog 18 #[.agg #[.int .i64 x.dscp, .int .i64 x.ecn, .int .i64 x.id, .int .i64 x.flags, .int .i64 x.frag, .int .i64 x.ttl, .int .i64 x.proto, .int .i64 x.src.k, .int .i64 x.src.a, .int .i64 x.src.b, .int .i64 x.src.c, .int .i64 x.src.d, .int .i64 x.dst.k, .int .i64 x.dst.a, .int .i64 x.dst.b, .int .i64 x.dst.c, .int .i64 x.dst.d, .slice A n c, .slice D m d]] w fun e w' => e = .returned (.int .i64 (x.sum os m)) ∧ Below w.heap.size w w' := by
  have SO := Lib.hid (fun w => show Calls Try.prog 16 #[.agg #[.int .i64 x.dscp, .int .i64 x.ecn, .int .i64 x.id, .int .i64 x.flags, .int .i64 x.frag, .int .i64 x.ttl, .int .i64 x.proto, .int .i64 x.src.k, .int .i64 x.src.a, .int .i64 x.src.b, .int .i64 x.src.c, .int .i64 x.src.d, .int .i64 x.dst.k, .int .i64 x.dst.a, .int .i64 x.dst.b, .int .i64 x.dst.c, .int .i64 x.dst.d, .slice A n c, .slice D m d]] w fun e w' => e = .returned (.bool true) ∧ Below w.heap.size w w' from hok ▸ implFourOk x A D n c m d _)
  have H := Lib.hid (show x.sum os m = checksum (x.head 0 os m) by simp [Fh.sum, hl, hok])
  have EL := Lib.hid (show (x.head 0 os m).length = 20 + n by rw [Fh.head_length, hl])
  have hn40 : n ≤ 40 := ((x.ok_iff n m).1 hok).2.2.2.1.1
  have HO := Lib.hid hok
  have HR := Lib.hid hr
  have HL := Lib.hid hl
  clear hok hr hl
  have q := Lib.hid (K.new w (.cells #[.int .i64 x.dscp, .int .i64 x.ecn, .int .i64 x.id, .int .i64 x.flags, .int .i64 x.frag, .int .i64 x.ttl, .int .i64 x.proto, .int .i64 x.src.k, .int .i64 x.src.a, .int .i64 x.src.b, .int .i64 x.src.c, .int .i64 x.src.d, .int .i64 x.dst.k, .int .i64 x.dst.a, .int .i64 x.dst.b, .int .i64 x.dst.c, .int .i64 x.dst.d, .slice A n c, .slice D m d] 31))
  go_enter Try.func18, Try.ntmps18
  go_wp2_with (with_reducible refine loadF rfl _ rfl w.heap.size rfl q.out ?_)
  refine Calls.mono (SO.out _) ?_
  rintro e w1 ⟨rfl, b1⟩
  have q1 := Lib.hid (K.below b1 q.out)
  have B := Lib.hid (bthen (Joins.below_alloc1 w _) b1)
  clear b1
  go_wp2_with (with_reducible refine loadF rfl _ rfl w.heap.size rfl q1.out ?_)
  refine Calls.mono (headIC x A D n c m d os 0 _ ((HR.out.below B.out).more B.out.size) HL.out HO.out) ?_
  rintro e w2 ⟨A2, c2, rfl, o2, b2⟩
  have B2 := Lib.hid (bthen B.out b2)
  have R2 := Lib.hid (RB.of_own o2)
  clear o2 b2
  go_wp2_with fail
  refine Calls.mono (implCheck A2 (20 + n) c2 (x.head 0 os m) _ R2.out EL.out (by omega)) ?_
  rintro e w3 ⟨rfl, b3⟩
  have B3 := Lib.hid (bthen B2.out b3)
  clear b3
  go_wp2
  go_ret
  exact ⟨ret_int H.out.symm, B3.out⟩

theorem sumIC (x : Fh) (A D : Option Addr) (n c m d : Nat) (os : List UInt8) (w : World) (hr : RB w w.heap.size A os) (hl : os.length = n) : Calls Try.prog 18 #[.agg #[.int .i64 x.dscp, .int .i64 x.ecn, .int .i64 x.id, .int .i64 x.flags, .int .i64 x.frag, .int .i64 x.ttl, .int .i64 x.proto, .int .i64 x.src.k, .int .i64 x.src.a, .int .i64 x.src.b, .int .i64 x.src.c, .int .i64 x.src.d, .int .i64 x.dst.k, .int .i64 x.dst.a, .int .i64 x.dst.b, .int .i64 x.dst.c, .int .i64 x.dst.d, .slice A n c, .slice D m d]] w fun e w' => e = .returned (.int .i64 (x.sum os m)) ∧ Below w.heap.size w w' := by
  cases hok : x.ok n m
  · exact sumI_no x A D n c m d os w hl hok
  · exact sumI_yes x A D n c m d os w hr hl hok
end Go.Proofs.Ytekdfffjlcikeaa
