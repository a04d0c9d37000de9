/-
  SixBytes answers as its model. The law FnExactSixBytes holds at every packet: no condition; the argument reads afterwards as before.
-/
import Derived.Test.YtegpaocoepcemaaRows
import Derived.Test.YtegpaocoepcemaaInSix
import Derived.Test.YtegpaocoepcemaaSixSz
import Derived.Test.YtegpaocoepcemaaKuB
import Derived.ShutString
namespace Go.Proofs.Ytegpaocoepcemaa
set_option maxRecDepth 100000
open Go.RowKit

theorem says_bodies {ys zs : List Ey} (h : zs.map Ey.says = ys.map Ey.says) : bodies zs = bodies ys := by rw [bodies_says, h, ← bodies_says]
/-- What SixBytes leaves, in letters. -/
def SB2 (ds : List UInt8) (L : Nat) (w : World) (e : Ending) (w' : World) : Prop := ∃ A c, e = .returned (.slice A L c) ∧ w'.ownsRow w.heap.size 5 1 (.slice A L c) L (cellsOf ds) ∧ Below w.heap.size w w'
theorem sbS2 (x : Sh) (A D : Option Addr) (n c m d : Nat) (ys : List Ey) (es : List (Int × List UInt8)) (bs ds : List UInt8) (L : Nat) (w : World) (hx : XR w w.heap.size A ys) (hl : ys.length = n) (hb : bodies ys ≤ 1048576) (hs : RB w w.heap.size D bs) (hm : bs.length = m) (he : ys.map Ey.says = es) (hd : x.bytes es bs = ds) (hL : ds.length = L) : Calls Try.prog 20 #[.agg #[.int .i64 x.cls, .int .i64 x.label, .int .i64 x.hops, .int .i64 x.proto, .int .i64 x.src.k, .int .i64 x.src.a, .int .i64 x.src.b, .int .i64 x.src.c, .int .i64 x.src.d, .int .i64 x.dst.k, .int .i64 x.dst.a, .int .i64 x.dst.b, .int .i64 x.dst.c, .int .i64 x.dst.d, .slice A n c, .slice D m d]] w (SB2 ds L w) := by
  subst he hd hL
  cases ho : x.ok (ys.map Ey.says) m
  · exact sbS_no x A D n c m d ys bs w hx hl hb hm ho
  · exact sbS_yes x A D n c m d ys bs w hx hl hb hs hm ho
theorem sbI2 (x : Sh) (A D : Option Addr) (n c m d : Nat) (ys : List Ey) (es : List (Int × List UInt8)) (bs ds : List UInt8) (L : Nat) (w : World) (hx : XR w w.heap.size A ys) (hl : ys.length = n) (hb : bodies ys ≤ 1048576) (hs : RB w w.heap.size D bs) (hm : bs.length = m) (hn : n ≤ 1048576) (he : ys.map Ey.says = es) (hd : x.bytes es bs = ds) (hL : ds.length = L) : Calls Try.prog 21 #[.agg #[.int .i64 x.cls, .int .i64 x.label, .int .i64 x.hops, .int .i64 x.proto, .int .i64 x.src.k, .int .i64 x.src.a, .int .i64 x.src.b, .int .i64 x.src.c, .int .i64 x.src.d, .int .i64 x.dst.k, .int .i64 x.dst.a, .int .i64 x.dst.b, .int .i64 x.dst.c, .int .i64 x.dst.d, .slice A n c, .slice D m d]] w (SB2 ds L w) := by
  subst he hd hL
  cases ho : x.ok (ys.map Ey.says) m
  · exact sbI_no x A D n c m d ys bs w hx hl hb hm hn ho
  · exact sbI_yes x A D n c m d ys bs w hx hl hb hs hm hn ho

set_option maxHeartbeats 4000000 in
theorem lawSixBytes {w : World} (x : Sh) (A : Option Addr) (n c : Nat) (ys : List Ey) (D : Option Addr) (m d : Nat) (bs : List UInt8) (h : XIn w A n c ys) (k : In w D m d bs) : Calls Try.prog 6 #[.agg #[.int .i64 x.cls, .int .i64 x.label, .int .i64 x.hops, .int .i64 x.proto, .int .i64 x.src.k, .int .i64 x.src.a, .int .i64 x.src.b, .int .i64 x.src.c, .int .i64 x.src.d, .int .i64 x.dst.k, .int .i64 x.dst.a, .int .i64 x.dst.b, .int .i64 x.dst.c, .int .i64 x.dst.d, .slice A n c, .slice D m d]] w fun e w' => e = .returned (.bool true) ∧ Below w.heap.size w w' := by
  obtain ⟨es, hes⟩ : ∃ es, ys.map Ey.says = es := ⟨_, rfl⟩
  obtain ⟨ds, hds⟩ : ∃ ds, x.bytes es bs = ds := ⟨_, rfl⟩
  obtain ⟨L, hL⟩ : ∃ L, ds.length = L := ⟨_, rfl⟩
  have hL2 : L ≤ 1500 := by rw [← hL, ← hds]; exact x.bytes_length es bs
  have HD := Lib.hid hds
  have HLE := Lib.hid hL
  have HES := Lib.hid hes
  clear hds hL hes
  have HL := Lib.hid h.len
  have HK := Lib.hid k.len
  have R0 := Lib.hid h.xr
  have S0 := Lib.hid k.rb
  have HI := Lib.hid (fun o : Obj => (⟨h.len, h.cap, h.big, (h.row.below (Joins.below_alloc1 w o)).more (by simp), fun y hy => ⟨(h.body y hy).len, (h.body y hy).cap, (h.body y hy).big, ((h.body y hy).rb.below (Joins.below_alloc1 w o)).more (by simp)⟩⟩ : XIn (w.alloc o) A n c ys))
  have HJ := Lib.hid (fun o : Obj => (⟨k.len, k.cap, k.big, (k.rb.below (Joins.below_alloc1 w o)).more (by simp)⟩ : In (w.alloc o) D m d bs))
  have q0 := Lib.hid (K.new w (.cells #[.int .i64 x.cls, .int .i64 x.label, .int .i64 x.hops, .int .i64 x.proto, .int .i64 x.src.k, .int .i64 x.src.a, .int .i64 x.src.b, .int .i64 x.src.c, .int .i64 x.src.d, .int .i64 x.dst.k, .int .i64 x.dst.a, .int .i64 x.dst.b, .int .i64 x.dst.c, .int .i64 x.dst.d, .slice A n c, .slice D m d] 30))
  clear h k
  go_enter Try.func6, Try.ntmps6
  go_wp2_with (with_reducible refine loadLS rfl _ rfl w.heap.size rfl q0.out ?_)
  refine Calls.mono (szSixC x A D n c m d ys bs _ (HI.out _) (HJ.out _)) ?_
  rintro e w1 ⟨r, rfl, hr, b1⟩
  have q1 := Lib.hid (K.below b1 q0.out)
  have B1 := Lib.hid (bthen (Joins.below_alloc1 w _) b1)
  clear b1 HI HJ
  by_cases h0 : r < 0
  · clear hr
    go_wp2
    go_ret
    exact ⟨rfl, B1.out⟩
  have hr1 : n + bodies ys + m ≤ 1048576 := by omega
  have hr0 : 0 ≤ r := by omega
  have HB := Lib.hid (show bodies ys ≤ 1048576 by omega)
  clear hr h0
  go_wp2_with (with_reducible refine loadLS rfl _ rfl w.heap.size rfl q1.out ?_)
  refine Calls.mono (toSixC x A D n c m d ys bs _ (R0.out.on B1.out) HL.out (by omega) HB.out ((S0.out.below B1.out).more B1.out.size) HK.out (by omega)) ?_
  rintro e w2 ⟨A2, c2, zs2, D2, d2, rfl, o2, z2, p2, a2, b2⟩
  have O2 := Lib.hid o2
  have P2 := Lib.hid p2
  have Z2 := Lib.hid (z2.trans HES.out)
  have q2 := Lib.hid (K.below b2 q1.out)
  have B2 := Lib.hid (bthen B1.out b2)
  have L2 := Lib.hid (says_len z2 HL.out HB.out)
  clear o2 p2 a2 b2 hr0 z2
  go_wp2_with fail
  refine Calls.mono (sbS2 x A2 D2 n c2 m d2 zs2 es bs ds L _ O2.out.xr L2.out.1 L2.out.2 (RB.of_own P2.out) HK.out Z2.out HD.out HLE.out) ?_
  rintro e w3 ⟨Aw, cw, rfl, ow, b3⟩
  have W3 := Lib.hid ow
  have LW := Lib.hid ow.lt
  have q3 := Lib.hid (K.below b3 q2.out)
  have B3 := Lib.hid (bthen B2.out b3)
  clear ow b3
  go_wp2_with (with_reducible refine loadLS rfl _ rfl w.heap.size rfl q3.out ?_)
  refine Calls.mono (toSixC x A D n c m d ys bs _ (R0.out.on B3.out) HL.out (by omega) HB.out ((S0.out.below B3.out).more B3.out.size) HK.out (by omega)) ?_
  rintro e w4 ⟨A4, c4, zs4, D4, d4, rfl, o4, z4, p4, a4, b4⟩
  have q4 := Lib.hid (K.below b4 q3.out)
  have B4 := Lib.hid (bthen B3.out b4)
  have W4 := Lib.hid (own_below W3.out b4)
  have O4 := Lib.hid o4
  have P4 := Lib.hid p4
  have LA := Lib.hid o4.lt
  have LD := Lib.hid p4.lt
  have AP := Lib.hid a4
  have LT := Lib.hid b4.size
  have Z4 := Lib.hid z4
  have L4 := Lib.hid (says_len z4 HL.out HB.out)
  have LS := Lib.hid (show ∀ k, sblocks A4 D4 n c4 m d4 zs4 k → w3.heap.size ≤ k ∧ k < w4.heap.size from fun k hk => by
    rcases hk with (hk | ⟨z, hz, hk⟩) | hk
    · exact o4.lt.1 k hk
    · exact o4.lt.2 z hz k hk
    · exact p4.lt k hk)
  have NB := Lib.hid (show n + bodies zs4 + m ≤ 1048576 by rw [says_bodies z4]; exact hr1)
  clear o4 p4 a4 b4 z4
  have y4 := Lib.hid (K.new w4 (.cells #[.int .i64 x.cls, .int .i64 x.label, .int .i64 x.hops, .int .i64 x.proto, .int .i64 x.src.k, .int .i64 x.src.a, .int .i64 x.src.b, .int .i64 x.src.c, .int .i64 x.src.d, .int .i64 x.dst.k, .int .i64 x.dst.a, .int .i64 x.dst.b, .int .i64 x.dst.c, .int .i64 x.dst.d, .slice A4 n c4, .slice D4 m d4] 36))
  go_wp2_with (first | (with_reducible refine storeNewS rfl _ _ rfl rfl rfl ?_) | (with_reducible refine loadS rfl _ rfl w4.heap.size rfl y4.out ?_))
  have X4 := Lib.hid (O4.out.alloc (.cells #[.int .i64 x.cls, .int .i64 x.label, .int .i64 x.hops, .int .i64 x.proto, .int .i64 x.src.k, .int .i64 x.src.a, .int .i64 x.src.b, .int .i64 x.src.c, .int .i64 x.src.d, .int .i64 x.dst.k, .int .i64 x.dst.a, .int .i64 x.dst.b, .int .i64 x.dst.c, .int .i64 x.dst.d, .slice A4 n c4, .slice D4 m d4] 36))
  have Y4 := Lib.hid (World.ownsRow.alloc P4.out (.cells #[.int .i64 x.cls, .int .i64 x.label, .int .i64 x.hops, .int .i64 x.proto, .int .i64 x.src.k, .int .i64 x.src.a, .int .i64 x.src.b, .int .i64 x.src.c, .int .i64 x.src.d, .int .i64 x.dst.k, .int .i64 x.dst.a, .int .i64 x.dst.b, .int .i64 x.dst.c, .int .i64 x.dst.d, .slice A4 n c4, .slice D4 m d4] 36))
  refine Calls.mono (sbI2 x A4 D4 n c4 m d4 zs4 es bs ds L _ X4.out.xr L4.out.1 L4.out.2 (RB.of_own Y4.out) HK.out (by omega) (Z4.out.trans HES.out) HD.out HLE.out) ?_
  rintro e w5 ⟨Ag, cg, rfl, og, b5⟩
  have r5 := Lib.hid (K.newB b5)
  have q5 := Lib.hid (K.below b5 (K.old q4.out _))
  have O5 := Lib.hid (X4.out.below b5)
  have P5 := Lib.hid (own_below Y4.out b5)
  have W5 := Lib.hid (own_below (W4.out.alloc (.cells #[.int .i64 x.cls, .int .i64 x.label, .int .i64 x.hops, .int .i64 x.proto, .int .i64 x.src.k, .int .i64 x.src.a, .int .i64 x.src.b, .int .i64 x.src.c, .int .i64 x.src.d, .int .i64 x.dst.k, .int .i64 x.dst.a, .int .i64 x.dst.b, .int .i64 x.dst.c, .int .i64 x.dst.d, .slice A4 n c4, .slice D4 m d4] 36)) b5)
  have G5 := Lib.hid (own_base og (show w4.heap.size + 1 ≤ _ by simp))
  have LG := Lib.hid G5.out.lt
  have B5 := Lib.hid (bthen (bthen B4.out (Joins.below_alloc1 w4 _)) b5)
  clear b5 og
  go_wp2_with fail
  refine Calls.mono (eqBn Ag Aw L cg cw ds _ (RB.of_own G5.out) (RB.of_own W5.out) HLE.out (by omega)) ?_
  rintro e w6 ⟨rfl, b6⟩
  have q6 := Lib.hid (K.below b6 q5.out)
  have r6 := Lib.hid (K.below b6 r5.out)
  have O6 := Lib.hid (O5.out.below b6)
  have P6 := Lib.hid (own_below P5.out b6)
  have W6 := Lib.hid (own_below W5.out b6)
  have G6 := Lib.hid (own_below G5.out b6)
  have B6 := Lib.hid (bthen B5.out b6)
  clear b6
  go_wp2_with fail
  refine sameSixRegion 69 1 5 27 w.heap.size w4.heap.size _ _ _ _ _ _ _ _ rfl (by kernel_rfl) rfl (by omega) ⟨rfl, rfl⟩ ⟨rfl, rfl⟩ ⟨rfl, rfl⟩ ⟨rfl, rfl⟩ ⟨rfl, rfl⟩ (by kernel_rfl) (by kernel_rfl) (by kernel_rfl) (by kernel_rfl) rfl rfl x A D A4 D4 n c m d c4 d4 ys zs4 bs Z4.out q6.out r6.out (R0.out.on B6.out) ((S0.out.below B6.out).more B6.out.size) O6.out.xr (RB.of_own P6.out) HL.out HB.out L4.out.2 HK.out (by omega) (by omega) ?_
  intro w7 u b7
  have q7 := Lib.hid (K.below b7 q6.out)
  have r7 := Lib.hid (K.below b7 r6.out)
  have O7 := Lib.hid (O6.out.below b7)
  have P7 := Lib.hid (own_below P6.out b7)
  have W7 := Lib.hid (own_below W6.out b7)
  have G7 := Lib.hid (own_below G6.out b7)
  have B7 := Lib.hid (bthen B6.out b7)
  clear b7
  go_simp
  go_wp2_with (with_reducible refine loadS rfl _ rfl w4.heap.size rfl r7.out ?_)
  refine Calls.mono (markSixC x A4 D4 n c4 m d4 w3.heap.size zs4 bs _ O7.out P7.out HK.out AP.out NB.out) ?_
  rintro e w8 ⟨rfl, _, _, t8⟩
  have q8 := Lib.hid (t8.kept q7.out (fun hs => by have := LS.out _ hs; have := K.lt q3.out; omega))
  have G8 := Lib.hid (t8.own G7.out (fun k h1 h2 => by have := LG.out k h1; have := LS.out k h2; omega))
  have W8 := Lib.hid (t8.own W7.out (fun k h1 h2 => by have := LW.out k h1; have := LS.out k h2; omega))
  have B8 := Lib.hid (t8.below B7.out (fun k hk => by have := LS.out k hk; have := B3.out.size; omega))
  clear t8
  go_wp2_with fail
  refine Calls.mono (eqBn Ag Aw L cg cw ds _ (RB.of_own G8.out) (RB.of_own W8.out) HLE.out (by omega)) ?_
  rintro e w9 ⟨rfl, b9⟩
  have q9 := Lib.hid (K.below b9 q8.out)
  have G9 := Lib.hid (own_below G8.out b9)
  have W9 := Lib.hid (own_below W8.out b9)
  have B9 := Lib.hid (bthen B8.out b9)
  clear b9
  go_wp2_with fail
  refine Calls.mono (markBn Ag L cg _ ds 1 _ G9.out (by omega) (by omega) (by omega)) ?_
  rintro e wa ⟨rfl, oa, ga⟩
  have Ga := Lib.hid oa
  have Wa := Lib.hid (own_grown W9.out ga (fun k h1 h2 => by have := LW.out k h1; have := LG.out k h2; have := B3.out.size; have := LT.out; omega))
  have qa := Lib.hid (K.kept ga q9.out (fun k hk => by have := LG.out k hk; have := K.lt q4.out; omega))
  have Ba := Lib.hid (bgrown B9.out ga (fun k hk => by have := LG.out k hk; have := B4.out.size; omega))
  clear oa ga
  go_wp2_with fail
  refine Calls.mono (heldBn Ag L cg 1 _ (RB.of_own Ga.out) (by omega) (by omega) (by omega)) ?_
  rintro e wb ⟨rfl, rfl⟩
  go_wp2_with (with_reducible refine loadLS rfl _ rfl w.heap.size rfl qa.out ?_)
  refine Calls.mono (toSixC x A D n c m d ys bs _ (R0.out.on Ba.out) HL.out (by omega) HB.out ((S0.out.below Ba.out).more Ba.out.size) HK.out (by omega)) ?_
  rintro e wc ⟨Ac, cc, zsc, Dc, dc, rfl, oc, zc, pc, ac, bc⟩
  have Lc := Lib.hid (says_len zc HL.out HB.out)
  have Zc := Lib.hid (zc.trans HES.out)
  have Oc := Lib.hid oc
  have Pc := Lib.hid pc
  have Gc := Lib.hid (own_below Ga.out bc)
  have Wc := Lib.hid (own_below Wa.out bc)
  have Bc := Lib.hid (bthen Ba.out bc)
  clear oc pc ac bc zc
  go_wp2_with fail
  refine Calls.mono (sbI2 x Ac Dc n cc m dc zsc es bs ds L _ Oc.out.xr Lc.out.1 Lc.out.2 (RB.of_own Pc.out) HK.out (by omega) Zc.out HD.out HLE.out) ?_
  rintro e wd ⟨Ah, ch, rfl, oh, bd⟩
  have Hd := Lib.hid oh
  have Gd := Lib.hid (own_below Gc.out bd)
  have Wd := Lib.hid (own_below Wc.out bd)
  have Bd := Lib.hid (bthen Bc.out bd)
  clear oh bd
  go_wp2_with fail
  refine Calls.mono (eqBn Ah Aw L ch cw ds _ (RB.of_own Hd.out) (RB.of_own Wd.out) HLE.out (by omega)) ?_
  rintro e we ⟨rfl, be⟩
  have Ge := Lib.hid (own_below Gd.out be)
  have Be := Lib.hid (bthen Bd.out be)
  clear be
  go_wp2_with fail
  refine Calls.mono (heldBn Ag L cg 1 _ (RB.of_own Ge.out) (by omega) (by omega) (by omega)) ?_
  rintro e wf ⟨rfl, rfl⟩
  go_wp2
  go_ret
  exact ⟨rfl, Be.out⟩

namespace fnExactSixBytes
open Go.ChangeShapes Go.WideShapes Go.ChangeAt Go.RowKit
open Go.ChangeMaps (open_string shut_string)
theorem own : ownKnob Try.prog.godebug = none := by kernel_rfl
theorem laidOut : laidOutB Try.prog = true := by kernel_rfl

set_option maxRecDepth 100000 in
theorem lifted (os : Os) (started : os.Started) (H : Type) (enc : TypeId × Value → H) :
    ReturnsInHanded {} Try.checked os 6 .any (Rows.fnExactSixBytesSpec.pre6 enc Try.prog Try.f6 Rows.fnExactSixBytesRow.domain false) (Rows.fnExactSixBytesSpec.post enc Try.prog Try.f6 false true false false) := by
  refine returnsInHanded_of_change (C := Try.checked) own started (by kernel_rfl) Try.func6
    (ChangeSpec.witness6 (enc := enc) (C := Try.checked) false ⟨#[], #[.agg #[.int .i64 0, .int .i64 0, .int .i64 0, .int .i64 0, .int .i64 0, .int .i64 0, .int .i64 0, .int .i64 0, .int .i64 0, .int .i64 0, .int .i64 0, .int .i64 0, .int .i64 0, .int .i64 0, .slice none 0 0, .slice none 0 0]], []⟩ 8 (by kernel_rfl) (by kernel_rfl) (by kernel_rfl) (by kernel_rfl)) ?_
  intro W base args ds gs before hval0 hW _ _
  have hval : ∀ (j : Nat) t v, Try.f6.params[j]? = some t → args[j]? = some v → Value.okWide Try.prog W .any base t v := hval0
  have hW' := hW
  obtain ⟨p, q, hA0, hV, rfl, _, _⟩ := hW
  have hA : DataW.TrodAll enc Try.prog W 0 (fun _ => true) true Try.f6.params.toList args.toList ds p := hA0
  rw [Try.params6] at hA hval
  obtain ⟨v0, vs0, d0, ds0, p0, q0, hargs, rfl, rfl, h0, r0⟩ := trodAll_cons hA
  obtain ⟨rfl, rfl, rfl⟩ := trodAll_nil r0
  obtain rfl : args = #[v0] := by cases args; simp_all
  obtain ⟨rfl, rfl⟩ := trodVars_none hV
  have k0 := h0
  have lt0 : ∀ x ∈ p0, x.block < W.heap.size := by obtain ⟨m, hm⟩ := k0; exact DataW.trod_lt m _ _ _ hm
  obtain ⟨a0, A0, n0, c0, y0, D0, m0, e0, s0, rfl, w0, u0⟩ := six_in (hval 0 30 v0 rfl rfl) h0
  clear hA0 hval0
  refine (lawSixBytes a0 A0 n0 c0 y0 D0 m0 e0 s0 w0 u0).mono fun e W' ⟨he, bel⟩ => ?_
  subst he
  exact ⟨_, rfl, _, _, _, [], _, [], hW', trodAll_mk1 (shut_bool Try.underlying4 _), (trodAll_cons_mk (Below.trod laidOut (by kernel_rfl) (of_decide_eq_true (by kernel_rfl)) k0 bel lt0) trodAll_mk0), rfl, bel.frame _, fun h => by cases h⟩

theorem proved : Rows.FnExactSixBytesSaid :=
  OpenClaim.holds_of_wide 6 Try.f6 rfl rfl rfl rfl rfl rfl rfl ⟨rfl, rfl, rfl, rfl, rfl⟩ rfl rfl rfl rfl rfl (by kernel_rfl) Try.func6 (by kernel_rfl)
    (of_decide_eq_true (by kernel_rfl)) (by unfold Func.isWrapper; rw [if_neg (of_decide_eq_false (by kernel_rfl))]; exact ⟨rfl, rfl⟩)
    (fun os started H enc _ => lifted os started H enc)
#print axioms proved
end fnExactSixBytes
end Go.Proofs.Ytegpaocoepcemaa
