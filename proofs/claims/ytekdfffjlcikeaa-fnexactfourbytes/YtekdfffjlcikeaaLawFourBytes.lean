/-
  For every packet the law FnExactFourBytes returns true: impl.FourBytes answers what the model spec.FourBytes answers, leaves the packet as it was, and its answer owns its memory. No condition. The law FnExactFourBytes holds at every packet: no condition; the argument reads afterwards as before.
-/
import Derived.Test.YtekdfffjlcikeaaRows
import Derived.Test.YtekdfffjlcikeaaInFour
import Derived.Test.YtekdfffjlcikeaaFourReg
import Derived.Test.YtekdfffjlcikeaaFourBytes
import Derived.Test.YtekdfffjlcikeaaFourMark
import Derived.ShutString
namespace Go.Proofs.Ytekdfffjlcikeaa
open Go.RowKit

set_option maxRecDepth 100000 in
set_option maxHeartbeats 1000000 in
theorem lawFourBytes_big1 {w : World} (x : Fh) (A D : Option Addr) (n c m d : Nat) (h : 1048576 < n) (hn : n ≤ maxLen) : Calls Try.prog 6 #[.agg #[.int .i64 x.dscp, .int .i64 x.ecn, .int .i64 x.id, .int .i64 x.flags, .int .i64 x.frag, .int .i64 x.ttl, .int .i64 x.proto, .int .i64 x.src.k, .int .i64 x.src.a, .int .i64 x.src.b, .int .i64 x.src.c, .int .i64 x.src.d, .int .i64 x.dst.k, .int .i64 x.dst.a, .int .i64 x.dst.b, .int .i64 x.dst.c, .int .i64 x.dst.d, .slice A n c, .slice D m d]] w fun e w' => e = .returned (.bool true) ∧ Below w.heap.size w w' := by
  have H := Lib.hid (show (1048576 : Int) < n by omega)
  have q0 := Lib.hid (K.new w (.cells #[.int .i64 x.dscp, .int .i64 x.ecn, .int .i64 x.id, .int .i64 x.flags, .int .i64 x.frag, .int .i64 x.ttl, .int .i64 x.proto, .int .i64 x.src.k, .int .i64 x.src.a, .int .i64 x.src.b, .int .i64 x.src.c, .int .i64 x.src.d, .int .i64 x.dst.k, .int .i64 x.dst.a, .int .i64 x.dst.b, .int .i64 x.dst.c, .int .i64 x.dst.d, .slice A n c, .slice D m d] 26))
  clear h
  go_enter Try.func6, Try.ntmps6
  go_wp2_with (with_reducible refine loadL rfl _ rfl w.heap.size rfl q0.out ?_)
  refine Calls.mono (szFour_no1 x A D n c m d _ _ H.out (by omega) hn) ?_
  rintro e w1 ⟨rfl, b1⟩
  go_wp2
  go_ret
  exact ⟨rfl, bthen (Joins.below_alloc1 w _) b1⟩

set_option maxRecDepth 100000 in
set_option maxHeartbeats 1000000 in
theorem lawFourBytes_big2 {w : World} (x : Fh) (A D : Option Addr) (n c m d : Nat) (h1 : n ≤ 1048576) (h : 1048576 < n + m) (hm : m ≤ maxLen) : Calls Try.prog 6 #[.agg #[.int .i64 x.dscp, .int .i64 x.ecn, .int .i64 x.id, .int .i64 x.flags, .int .i64 x.frag, .int .i64 x.ttl, .int .i64 x.proto, .int .i64 x.src.k, .int .i64 x.src.a, .int .i64 x.src.b, .int .i64 x.src.c, .int .i64 x.src.d, .int .i64 x.dst.k, .int .i64 x.dst.a, .int .i64 x.dst.b, .int .i64 x.dst.c, .int .i64 x.dst.d, .slice A n c, .slice D m d]] w fun e w' => e = .returned (.bool true) ∧ Below w.heap.size w w' := by
  have H := Lib.hid (show (1048576 : Int) < n + m by omega)
  have q0 := Lib.hid (K.new w (.cells #[.int .i64 x.dscp, .int .i64 x.ecn, .int .i64 x.id, .int .i64 x.flags, .int .i64 x.frag, .int .i64 x.ttl, .int .i64 x.proto, .int .i64 x.src.k, .int .i64 x.src.a, .int .i64 x.src.b, .int .i64 x.src.c, .int .i64 x.src.d, .int .i64 x.dst.k, .int .i64 x.dst.a, .int .i64 x.dst.b, .int .i64 x.dst.c, .int .i64 x.dst.d, .slice A n c, .slice D m d] 26))
  clear h
  go_enter Try.func6, Try.ntmps6
  go_wp2_with (with_reducible refine loadL rfl _ rfl w.heap.size rfl q0.out ?_)
  refine Calls.mono (szFour_no2 x A D n c m d _ _ (by omega) (by omega) H.out hm) ?_
  rintro e w1 ⟨rfl, b1⟩
  go_wp2
  go_ret
  exact ⟨rfl, bthen (Joins.below_alloc1 w _) b1⟩

set_option maxRecDepth 100000 in
set_option maxHeartbeats 4000000 in
theorem lawFourBytes_small {w : World} (x : Fh) (A D : Option Addr) (n c m d : Nat) (os bs : List UInt8) (hr : RB w w.heap.size A os) (hl : os.length = n) (hs : RB w w.heap.size D bs) (hk : bs.length = m) (hn : n + m ≤ 1048576) : Calls Try.prog 6 #[.agg #[.int .i64 x.dscp, .int .i64 x.ecn, .int .i64 x.id, .int .i64 x.flags, .int .i64 x.frag, .int .i64 x.ttl, .int .i64 x.proto, .int .i64 x.src.k, .int .i64 x.src.a, .int .i64 x.src.b, .int .i64 x.src.c, .int .i64 x.src.d, .int .i64 x.dst.k, .int .i64 x.dst.a, .int .i64 x.dst.b, .int .i64 x.dst.c, .int .i64 x.dst.d, .slice A n c, .slice D m d]] w fun e w' => e = .returned (.bool true) ∧ Below w.heap.size w w' := by
  have HL := Lib.hid hl
  have HK := Lib.hid hk
  have R0 := Lib.hid hr
  have S0 := Lib.hid hs
  obtain ⟨ds, hds⟩ : ∃ ds, x.bytes os bs = ds := ⟨_, rfl⟩
  obtain ⟨L, hL⟩ : ∃ L, ds.length = L := ⟨_, rfl⟩
  have hL2 : L ≤ 1500 := by rw [← hL, ← hds]; exact x.bytes_length os bs
  have HD := Lib.hid hds
  have HE := Lib.hid hL
  clear hds hL
  have q0 := Lib.hid (K.new w (.cells #[.int .i64 x.dscp, .int .i64 x.ecn, .int .i64 x.id, .int .i64 x.flags, .int .i64 x.frag, .int .i64 x.ttl, .int .i64 x.proto, .int .i64 x.src.k, .int .i64 x.src.a, .int .i64 x.src.b, .int .i64 x.src.c, .int .i64 x.src.d, .int .i64 x.dst.k, .int .i64 x.dst.a, .int .i64 x.dst.b, .int .i64 x.dst.c, .int .i64 x.dst.d, .slice A n c, .slice D m d] 26))
  clear hl hr hk hs
  go_enter Try.func6, Try.ntmps6
  go_wp2_with (with_reducible refine loadL rfl _ rfl w.heap.size rfl q0.out ?_)
  refine Calls.mono (szFour_yes x A D n c m d _ _ (by omega) (by omega)) ?_
  rintro e w1 ⟨⟨r, rfl, hr0⟩, b1⟩
  have q1 := Lib.hid (K.below b1 q0.out)
  have B1 := Lib.hid (bthen (Joins.below_alloc1 w _) b1)
  clear b1
  go_wp2_with (with_reducible refine loadL rfl _ rfl w.heap.size rfl q1.out ?_)
  refine Calls.mono (toFourC x A D n c m d os bs _ ((R0.out.below B1.out).more B1.out.size) HL.out (by omega) ((S0.out.below B1.out).more B1.out.size) HK.out (by omega)) ?_
  rintro e w2 ⟨A2, c2, D2, d2, rfl, o2, p2, a2, b2⟩
  have O2 := Lib.hid o2
  have P2 := Lib.hid p2
  have q2 := Lib.hid (K.below b2 q1.out)
  have B2 := Lib.hid (bthen B1.out b2)
  clear o2 p2 a2 b2 hr0
  go_wp2_with fail
  refine Calls.mono (fbS2 x A2 D2 n c2 m d2 os bs ds L _ (by omega) (RB.of_own O2.out) HL.out (RB.of_own P2.out) HK.out HD.out HE.out) ?_
  rintro e w3 ⟨Aw, cw, rfl, ow, b3⟩
  have W3 := Lib.hid ow
  have LW := Lib.hid ow.lt
  have q3 := Lib.hid (K.below b3 q2.out)
  have B3 := Lib.hid (bthen B2.out b3)
  clear ow b3
  go_wp2_with (with_reducible refine loadL rfl _ rfl w.heap.size rfl q3.out ?_)
  refine Calls.mono (toFourC x A D n c m d os bs _ ((R0.out.below B3.out).more B3.out.size) HL.out (by omega) ((S0.out.below B3.out).more B3.out.size) HK.out (by omega)) ?_
  rintro e w4 ⟨A4, c4, D4, d4, rfl, o4, p4, a4, b4⟩
  have q4 := Lib.hid (K.below b4 q3.out)
  have B4 := Lib.hid (bthen B3.out b4)
  have W4 := Lib.hid (own_below W3.out b4)
  have O4 := Lib.hid o4
  have P4 := Lib.hid p4
  have LA := Lib.hid o4.lt
  have LD := Lib.hid p4.lt
  have AP := Lib.hid a4
  have LT := Lib.hid b4.size
  clear o4 p4 a4 b4
  have y4 := Lib.hid (K.new w4 (.cells #[.int .i64 x.dscp, .int .i64 x.ecn, .int .i64 x.id, .int .i64 x.flags, .int .i64 x.frag, .int .i64 x.ttl, .int .i64 x.proto, .int .i64 x.src.k, .int .i64 x.src.a, .int .i64 x.src.b, .int .i64 x.src.c, .int .i64 x.src.d, .int .i64 x.dst.k, .int .i64 x.dst.a, .int .i64 x.dst.b, .int .i64 x.dst.c, .int .i64 x.dst.d, .slice A4 n c4, .slice D4 m d4] 31))
  go_wp2_with (first | (with_reducible refine storeNewF rfl _ _ rfl rfl rfl ?_) | (with_reducible refine loadF rfl _ rfl w4.heap.size rfl y4.out ?_))
  refine Calls.mono (fbI2 x A4 D4 n c4 m d4 os bs ds L _ (RB.of_own (World.ownsRow.alloc O4.out (.cells #[.int .i64 x.dscp, .int .i64 x.ecn, .int .i64 x.id, .int .i64 x.flags, .int .i64 x.frag, .int .i64 x.ttl, .int .i64 x.proto, .int .i64 x.src.k, .int .i64 x.src.a, .int .i64 x.src.b, .int .i64 x.src.c, .int .i64 x.src.d, .int .i64 x.dst.k, .int .i64 x.dst.a, .int .i64 x.dst.b, .int .i64 x.dst.c, .int .i64 x.dst.d, .slice A4 n c4, .slice D4 m d4] 31))) HL.out (RB.of_own (World.ownsRow.alloc P4.out (.cells #[.int .i64 x.dscp, .int .i64 x.ecn, .int .i64 x.id, .int .i64 x.flags, .int .i64 x.frag, .int .i64 x.ttl, .int .i64 x.proto, .int .i64 x.src.k, .int .i64 x.src.a, .int .i64 x.src.b, .int .i64 x.src.c, .int .i64 x.src.d, .int .i64 x.dst.k, .int .i64 x.dst.a, .int .i64 x.dst.b, .int .i64 x.dst.c, .int .i64 x.dst.d, .slice A4 n c4, .slice D4 m d4] 31))) HK.out HD.out HE.out) ?_
  rintro e w5 ⟨Ag, cg, rfl, og, b5⟩
  have r5 := Lib.hid (K.newB b5)
  have q5 := Lib.hid (K.below b5 (K.old q4.out _))
  have O5 := Lib.hid (own_below (O4.out.alloc (.cells #[.int .i64 x.dscp, .int .i64 x.ecn, .int .i64 x.id, .int .i64 x.flags, .int .i64 x.frag, .int .i64 x.ttl, .int .i64 x.proto, .int .i64 x.src.k, .int .i64 x.src.a, .int .i64 x.src.b, .int .i64 x.src.c, .int .i64 x.src.d, .int .i64 x.dst.k, .int .i64 x.dst.a, .int .i64 x.dst.b, .int .i64 x.dst.c, .int .i64 x.dst.d, .slice A4 n c4, .slice D4 m d4] 31)) b5)
  have P5 := Lib.hid (own_below (P4.out.alloc (.cells #[.int .i64 x.dscp, .int .i64 x.ecn, .int .i64 x.id, .int .i64 x.flags, .int .i64 x.frag, .int .i64 x.ttl, .int .i64 x.proto, .int .i64 x.src.k, .int .i64 x.src.a, .int .i64 x.src.b, .int .i64 x.src.c, .int .i64 x.src.d, .int .i64 x.dst.k, .int .i64 x.dst.a, .int .i64 x.dst.b, .int .i64 x.dst.c, .int .i64 x.dst.d, .slice A4 n c4, .slice D4 m d4] 31)) b5)
  have W5 := Lib.hid (own_below (W4.out.alloc (.cells #[.int .i64 x.dscp, .int .i64 x.ecn, .int .i64 x.id, .int .i64 x.flags, .int .i64 x.frag, .int .i64 x.ttl, .int .i64 x.proto, .int .i64 x.src.k, .int .i64 x.src.a, .int .i64 x.src.b, .int .i64 x.src.c, .int .i64 x.src.d, .int .i64 x.dst.k, .int .i64 x.dst.a, .int .i64 x.dst.b, .int .i64 x.dst.c, .int .i64 x.dst.d, .slice A4 n c4, .slice D4 m d4] 31)) b5)
  have G5 := Lib.hid (own_base og (show w4.heap.size + 1 ≤ _ by simp))
  have LG := Lib.hid G5.out.lt
  have B5 := Lib.hid (bthen (bthen B4.out (Joins.below_alloc1 w4 _)) b5)
  clear b5 og
  go_wp2_with fail
  refine Calls.mono (eqBn Ag Aw L cg cw ds _ (RB.of_own G5.out) (RB.of_own W5.out) HE.out (by omega)) ?_
  rintro e w6 ⟨rfl, b6⟩
  have q6 := Lib.hid (K.below b6 q5.out)
  have r6 := Lib.hid (K.below b6 r5.out)
  have O6 := Lib.hid (own_below O5.out b6)
  have P6 := Lib.hid (own_below P5.out b6)
  have W6 := Lib.hid (own_below W5.out b6)
  have G6 := Lib.hid (own_below G5.out b6)
  have B6 := Lib.hid (bthen B5.out b6)
  clear b6
  go_wp2_with fail
  refine same_region 69 1 5 27 w.heap.size w4.heap.size _ _ _ _ _ _ _ _ rfl (by kernel_rfl) rfl (by omega) ⟨rfl, rfl⟩ ⟨rfl, rfl⟩ ⟨rfl, rfl⟩ ⟨rfl, rfl⟩ ⟨rfl, rfl⟩ (by kernel_rfl) (by kernel_rfl) (by kernel_rfl) (by kernel_rfl) rfl rfl x A D A4 D4 n c m d c4 d4 os bs q6.out r6.out ((R0.out.below B6.out).more B6.out.size) ((S0.out.below B6.out).more B6.out.size) (RB.of_own O6.out) (RB.of_own P6.out) HL.out HK.out (by omega) (by omega) ?_
  intro w7 A6 c6 D6 d6 b7
  have q7 := Lib.hid (K.below b7 q6.out)
  have r7 := Lib.hid (K.below b7 r6.out)
  have O7 := Lib.hid (own_below O6.out b7)
  have P7 := Lib.hid (own_below P6.out b7)
  have W7 := Lib.hid (own_below W6.out b7)
  have G7 := Lib.hid (own_below G6.out b7)
  have B7 := Lib.hid (bthen B6.out b7)
  clear b7
  go_simp
  go_wp2_with (with_reducible refine loadF rfl _ rfl w4.heap.size rfl r7.out ?_)
  refine Calls.mono (markFourW x A4 D4 n c4 m d4 w3.heap.size os bs _ O7.out P7.out AP.out hn) ?_
  rintro e w8 ⟨rfl, u, g8, h8⟩
  have q8 := Lib.hid (K.kept h8 (K.kept g8 q7.out (fun k hk => by have := LA.out k hk; have := B3.out.size; have := K.lt q3.out; omega)) (fun k hk => by have := LD.out k hk; have := K.lt q3.out; omega))
  have G8 := Lib.hid (own_grown (own_grown G7.out g8 (fun k h1 h2 => by have := LG.out k h1; have := LA.out k h2; omega)) h8 (fun k h1 h2 => by have := LG.out k h1; have := LD.out k h2; omega))
  have W8 := Lib.hid (own_grown (own_grown W7.out g8 (fun k h1 h2 => by have := LW.out k h1; have := LA.out k h2; omega)) h8 (fun k h1 h2 => by have := LW.out k h1; have := LD.out k h2; omega))
  have B8 := Lib.hid (bgrown (bgrown B7.out g8 (fun k hk => by have := LA.out k hk; have := B3.out.size; omega)) h8 (fun k hk => by have := LD.out k hk; have := B3.out.size; omega))
  clear g8 h8
  go_wp2_with fail
  refine Calls.mono (eqBn Ag Aw L cg cw ds _ (RB.of_own G8.out) (RB.of_own W8.out) HE.out (by omega)) ?_
  rintro e w9 ⟨rfl, b9⟩
  have q9 := Lib.hid (K.below b9 q8.out)
  have G9 := Lib.hid (own_below G8.out b9)
  have W9 := Lib.hid (own_below W8.out b9)
  have B9 := Lib.hid (bthen B8.out b9)
  clear b9
  go_wp2_with fail
  refine Calls.mono (markBn Ag L cg _ ds 1 _ G9.out (by omega) (by omega) (by omega)) ?_
  rintro e wa ⟨rfl, oa, ga⟩
  have Ga := Lib.hid oa
  have Wa := Lib.hid (own_grown W9.out ga (fun k h1 h2 => by have := LW.out k h1; have := LG.out k h2; have := B3.out.size; have := LT.out; omega))
  have qa := Lib.hid (K.kept ga q9.out (fun k hk => by have := LG.out k hk; have := K.lt q4.out; omega))
  have Ba := Lib.hid (bgrown B9.out ga (fun k hk => by have := LG.out k hk; have := B4.out.size; omega))
  clear oa ga
  go_wp2_with fail
  refine Calls.mono (heldBn Ag L cg 1 _ (RB.of_own Ga.out) (by omega) (by omega) (by omega)) ?_
  rintro e wb ⟨rfl, rfl⟩
  go_wp2_with (with_reducible refine loadL rfl _ rfl w.heap.size rfl qa.out ?_)
  refine Calls.mono (toFourC x A D n c m d os bs _ ((R0.out.below Ba.out).more Ba.out.size) HL.out (by omega) ((S0.out.below Ba.out).more Ba.out.size) HK.out (by omega)) ?_
  rintro e wc ⟨Ac, cc, Dc, dc, rfl, oc, pc, ac, bc⟩
  have Oc := Lib.hid oc
  have Pc := Lib.hid pc
  have Gc := Lib.hid (own_below Ga.out bc)
  have Wc := Lib.hid (own_below Wa.out bc)
  have Bc := Lib.hid (bthen Ba.out bc)
  clear oc pc ac bc
  go_wp2_with fail
  refine Calls.mono (fbI2 x Ac Dc n cc m dc os bs ds L _ (RB.of_own Oc.out) HL.out (RB.of_own Pc.out) HK.out HD.out HE.out) ?_
  rintro e wd ⟨Ah, ch, rfl, oh, bd⟩
  have Hd := Lib.hid oh
  have Gd := Lib.hid (own_below Gc.out bd)
  have Wd := Lib.hid (own_below Wc.out bd)
  have Bd := Lib.hid (bthen Bc.out bd)
  clear oh bd
  go_wp2_with fail
  refine Calls.mono (eqBn Ah Aw L ch cw ds _ (RB.of_own Hd.out) (RB.of_own Wd.out) HE.out (by omega)) ?_
  rintro e we ⟨rfl, be⟩
  have Ge := Lib.hid (own_below Gd.out be)
  have Be := Lib.hid (bthen Bd.out be)
  clear be
  go_wp2_with fail
  refine Calls.mono (heldBn Ag L cg 1 _ (RB.of_own Ge.out) (by omega) (by omega) (by omega)) ?_
  rintro e wf ⟨rfl, rfl⟩
  go_wp2
  go_ret
  exact ⟨rfl, Be.out⟩

theorem lawFourBytes {w : World} (x : Fh) (A : Option Addr) (n c : Nat) (os : List UInt8) (D : Option Addr) (m d : Nat) (bs : List UInt8) (h : In w A n c os) (k : In w D m d bs) : Calls Try.prog 6 #[.agg #[.int .i64 x.dscp, .int .i64 x.ecn, .int .i64 x.id, .int .i64 x.flags, .int .i64 x.frag, .int .i64 x.ttl, .int .i64 x.proto, .int .i64 x.src.k, .int .i64 x.src.a, .int .i64 x.src.b, .int .i64 x.src.c, .int .i64 x.src.d, .int .i64 x.dst.k, .int .i64 x.dst.a, .int .i64 x.dst.b, .int .i64 x.dst.c, .int .i64 x.dst.d, .slice A n c, .slice D m d]] w fun e w' => e = .returned (.bool true) ∧ Below w.heap.size w w' := by
  by_cases hb : n + m ≤ 1048576
  · exact lawFourBytes_small x A D n c m d os bs h.rb h.len k.rb k.len hb
  · by_cases hc : n ≤ 1048576
    · exact lawFourBytes_big2 x A D n c m d hc (by omega) (Nat.le_trans k.cap k.big)
    · exact lawFourBytes_big1 x A D n c m d (by omega) (Nat.le_trans h.cap h.big)

namespace fnExactFourBytes
open Go.ChangeShapes Go.WideShapes Go.ChangeAt Go.RowKit
open Go.ChangeMaps (open_string shut_string)
theorem own : ownKnob Try.prog.godebug = none := by kernel_rfl
theorem laidOut : laidOutB Try.prog = true := by kernel_rfl

set_option maxRecDepth 100000 in
theorem lifted (os : Os) (started : os.Started) (H : Type) (enc : TypeId × Value → H) :
    ReturnsInHanded {} Try.checked os 6 .any (Rows.fnExactFourBytesSpec.pre6 enc Try.prog Try.f6 Rows.fnExactFourBytesRow.domain false) (Rows.fnExactFourBytesSpec.post enc Try.prog Try.f6 false true false false) := by
  refine returnsInHanded_of_change (C := Try.checked) own started (by kernel_rfl) Try.func6
    (ChangeSpec.witness6 (enc := enc) (C := Try.checked) false ⟨#[], #[.agg #[.int .i64 0, .int .i64 0, .int .i64 0, .int .i64 0, .int .i64 0, .int .i64 0, .int .i64 0, .int .i64 0, .int .i64 0, .int .i64 0, .int .i64 0, .int .i64 0, .int .i64 0, .int .i64 0, .int .i64 0, .int .i64 0, .int .i64 0, .slice none 0 0, .slice none 0 0]], []⟩ 8 (by kernel_rfl) (by kernel_rfl) (by kernel_rfl) (by kernel_rfl)) ?_
  intro W base args ds gs before hval0 hW _ _
  have hval : ∀ (j : Nat) t v, Try.f6.params[j]? = some t → args[j]? = some v → Value.okWide Try.prog W .any base t v := hval0
  have hW' := hW
  obtain ⟨p, q, hA0, hV, rfl, _, _⟩ := hW
  have hA : DataW.TrodAll enc Try.prog W 0 (fun _ => true) true Try.f6.params.toList args.toList ds p := hA0
  rw [Try.params6] at hA hval
  obtain ⟨v0, vs0, d0, ds0, p0, q0, hargs, rfl, rfl, h0, r0⟩ := trodAll_cons hA
  obtain ⟨rfl, rfl, rfl⟩ := trodAll_nil r0
  obtain rfl : args = #[v0] := by cases args; simp_all
  obtain ⟨rfl, rfl⟩ := trodVars_none hV
  have k0 := h0
  have lt0 : ∀ x ∈ p0, x.block < W.heap.size := by obtain ⟨m, hm⟩ := k0; exact DataW.trod_lt m _ _ _ hm
  obtain ⟨a0, A0, n0, c0, b0, D0, m0, e0, s0, rfl, w0, u0⟩ := four_in (hval 0 26 v0 rfl rfl) h0
  clear hA0 hval0
  refine (lawFourBytes a0 A0 n0 c0 b0 D0 m0 e0 s0 w0 u0).mono fun e W' ⟨he, bel⟩ => ?_
  subst he
  exact ⟨_, rfl, _, _, _, [], _, [], hW', trodAll_mk1 (shut_bool Try.underlying4 _), (trodAll_cons_mk (Below.trod laidOut (by kernel_rfl) (of_decide_eq_true (by kernel_rfl)) k0 bel lt0) trodAll_mk0), rfl, bel.frame _, fun h => by cases h⟩

theorem proved : Rows.FnExactFourBytesSaid :=
  OpenClaim.holds_of_wide 6 Try.f6 rfl rfl rfl rfl rfl rfl rfl ⟨rfl, rfl, rfl, rfl, rfl⟩ rfl rfl rfl rfl rfl (by kernel_rfl) Try.func6 (by kernel_rfl)
    (of_decide_eq_true (by kernel_rfl)) (by unfold Func.isWrapper; rw [if_neg (of_decide_eq_false (by kernel_rfl))]; exact ⟨rfl, rfl⟩)
    (fun os started H enc _ => lifted os started H enc)
#print axioms proved
end fnExactFourBytes
end Go.Proofs.Ytekdfffjlcikeaa
