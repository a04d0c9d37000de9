/-
  For every table the law FnExactTableGrow returns true: impl.TableGrow answers what the model spec.TableGrow answers, writes into no argument, and its answer is its own. No condition; the argument reads afterwards as before.
-/
import Derived.Test.YtmfkpiclpkeemaaGH
import Derived.Test.YtmfkpiclpkeemaaGL
import Derived.Test.YtmfkpiclpkeemaaGC
import Derived.Test.YtmfkpiclpkeemaaRows
import Derived.ShutString
namespace Go.Proofs.Ytmfkpiclpkeemaa
set_option maxRecDepth 100000
open Go.RowKit

theorem tabGrow_short (s : Int) (cs : List Ce) : (tabGrow s cs).1.cells.length ≤ 1048576 := by
  cases ho : tabOk s cs with
  | false =>
    rw [tabGrow_no ho]
    exact Nat.zero_le 1048576
  | true =>
    by_cases h64 : cs.length = 64
    · rw [tabGrow_full ho h64]
      exact Nat.zero_le 1048576
    · rw [tabGrow_yes ho h64]
      show (grown s cs).length ≤ 1048576
      rw [← grownTo_all, grownTo_length]
      have := tab_len ho
      omega

set_option maxHeartbeats 8000000 in
theorem lawTableGrow {w : World} (s : Int) (A : Option Addr) (n c : Nat) (cs : List Ce) (h : FIn Ce.cells w A n c cs) : Calls Try.prog 12 #[.agg #[.int .i64 s, .slice A n c]] w fun e w' => e = .returned (.bool true) ∧ Below w.heap.size w w' := by
  have HL := Lib.hid h.len
  have R0 := Lib.hid h.row
  have hcap := h.cap
  have hbig := h.big
  obtain ⟨⟨⟨sd, xs⟩, rc⟩, hT⟩ : ∃ T, tabGrow s cs = T := ⟨_, rfl⟩
  have hx32 : xs.length ≤ 1048576 := by have := tabGrow_short s cs; rw [hT] at this; exact this
  have SC := Lib.hid (show ∀ (A : Option Addr) (n c : Nat) (v : World), RV v v.heap.size A (fl Ce.cells cs) → cs.length = n → n ≤ 1048576 → Calls Try.prog 44 #[.agg #[.int .i64 s, .slice A n c]] v fun e w' => ∃ u, e = .returned (.tuple #[u, .int .i64 rc]) ∧ TOwn v.heap.size ⟨sd, xs⟩ w' u ∧ Below v.heap.size v w' from fun A n c v h1 h2 h3 => by have := tabGrowS s A n c cs v h1 h2 h3; rw [hT] at this; exact this)
  have IC := Lib.hid (show ∀ (A : Option Addr) (n c : Nat) (v : World), RV v v.heap.size A (fl Ce.cells cs) → cs.length = n → n ≤ 1048576 → Calls Try.prog 45 #[.agg #[.int .i64 s, .slice A n c]] v fun e w' => ∃ u, e = .returned (.tuple #[u, .int .i64 rc]) ∧ TOwn v.heap.size ⟨sd, xs⟩ w' u ∧ Below v.heap.size v w' from fun A n c v h1 h2 h3 => by have := tabGrowI s A n c cs v h1 h2 h3; rw [hT] at this; exact this)
  have hrr : (rc != rc) = false := by simp
  clear h hT
  have q0 := Lib.hid (K.new w (.cells #[.int .i64 s, .slice A n c] 47))
  have HB := Lib.hid (Joins.below_alloc1 w (.cells #[.int .i64 s, .slice A n c] 47))
  go_enter Try.func12, Try.ntmps12
  go_wp2_with (with_reducible refine loadTbL rfl _ rfl w.heap.size rfl q0.out ?_)
  refine Calls.mono (szTabC s A n c 1048576 _ (by omega) (by omega) (Nat.le_trans hcap hbig)) ?_
  rintro e w1 ⟨r, rfl, hr, b1⟩
  have q1 := Lib.hid (K.below b1 q0.out)
  have B1 := Lib.hid (bthen HB.out b1)
  clear b1 q0
  by_cases hr0 : r < 0
  · clear hr
    go_wp2
    go_ret
    exact ⟨rfl, B1.out⟩
  have hn : n ≤ 1048576 := by omega
  have hrr : 0 ≤ r := by omega
  clear hr hr0
  go_wp2_with (with_reducible refine loadTbL rfl _ rfl (w.heap.size) rfl q1.out ?_)
  refine Calls.mono (toTabC s A n c cs _ (R0.out.on B1.out) HL.out hn) ?_
  rintro e w2 ⟨g2, rfl, o2, b2⟩
  have B2 := Lib.hid (bthen B1.out b2)
  have q2 := Lib.hid (K.below b2 q1.out)
  clear B1 q1
  have Z2 := Lib.hid (RV.of_own o2)
  clear o2 b2
  go_wp2_with fail
  refine Calls.mono (SC.out _ n n _ Z2.out HL.out hn) ?_
  rintro e w3 ⟨v3, rfl, ⟨A3, n3, c3, rfl, o3⟩, b3⟩
  obtain rfl := own_len o3
  have ZWW := Lib.hid B2.out.size
  have B3 := Lib.hid (bthen B2.out b3)
  have q3 := Lib.hid (K.below b3 q2.out)
  clear B2 q2
  have W3 := Lib.hid o3
  have LW := Lib.hid o3.lt
  clear o3 b3
  have AL := Lib.hid (Joins.below_alloc1 w3 (.cells #[.int .i64 sd, .slice A3 xs.length c3] 40))
  have B4 := Lib.hid (bthen B3.out AL.out)
  have q4 := Lib.hid (K.old q3.out (.cells #[.int .i64 sd, .slice A3 xs.length c3] 40))
  have W4 := Lib.hid (own_below W3.out AL.out)
  clear AL B3 q3 W3
  have ww4 := Lib.hid (K.new w3 (.cells #[.int .i64 sd, .slice A3 xs.length c3] 40))
  clear Z2
  go_wp2_with (with_reducible refine loadTbL rfl _ rfl (w.heap.size) rfl q4.out ?_)
  refine Calls.mono (toTabC s A n c cs _ (R0.out.on B4.out) HL.out hn) ?_
  rintro e w4 ⟨g4, rfl, o4, b4⟩
  have ZX := Lib.hid B4.out.size
  have B5 := Lib.hid (bthen B4.out b4)
  have q5 := Lib.hid (K.below b4 q4.out)
  have W5 := Lib.hid (own_below W4.out b4)
  have ww5 := Lib.hid (K.below b4 ww4.out)
  clear B4 q4 W4 ww4
  have X5 := Lib.hid o4
  have LX := Lib.hid o4.lt
  clear o4 b4
  have AL := Lib.hid (Joins.below_alloc1 w4 (.cells #[.int .i64 s, .slice (some ⟨g4, 0, none⟩) n n] 40))
  have B6 := Lib.hid (bthen B5.out AL.out)
  have q6 := Lib.hid (K.old q5.out (.cells #[.int .i64 s, .slice (some ⟨g4, 0, none⟩) n n] 40))
  have W6 := Lib.hid (own_below W5.out AL.out)
  have ww6 := Lib.hid (K.old ww5.out (.cells #[.int .i64 s, .slice (some ⟨g4, 0, none⟩) n n] 40))
  have X6 := Lib.hid (own_below X5.out AL.out)
  clear AL B5 q5 W5 ww5 X5
  have x6 := Lib.hid (K.new w4 (.cells #[.int .i64 s, .slice (some ⟨g4, 0, none⟩) n n] 40))
  go_wp2_with (with_reducible refine loadTb rfl _ rfl (w4.heap.size) rfl x6.out ?_)
  refine Calls.mono (IC.out _ n n _ (RV.of_own X6.out) HL.out hn) ?_
  rintro e w5 ⟨v5, rfl, ⟨A5, n5, c5, rfl, o5⟩, b5⟩
  obtain rfl := own_len o5
  have ZGG := Lib.hid B6.out.size
  have B7 := Lib.hid (bthen B6.out b5)
  have q7 := Lib.hid (K.below b5 q6.out)
  have W7 := Lib.hid (own_below W6.out b5)
  have ww7 := Lib.hid (K.below b5 ww6.out)
  have X7 := Lib.hid (own_below X6.out b5)
  have x7 := Lib.hid (K.below b5 x6.out)
  clear B6 q6 W6 ww6 X6 x6
  have G7 := Lib.hid o5
  have LG := Lib.hid o5.lt
  clear o5 b5
  have AL := Lib.hid (Joins.below_alloc1 w5 (.cells #[.int .i64 sd, .slice A5 xs.length c5] 40))
  have B8 := Lib.hid (bthen B7.out AL.out)
  have q8 := Lib.hid (K.old q7.out (.cells #[.int .i64 sd, .slice A5 xs.length c5] 40))
  have W8 := Lib.hid (own_below W7.out AL.out)
  have ww8 := Lib.hid (K.old ww7.out (.cells #[.int .i64 sd, .slice A5 xs.length c5] 40))
  have X8 := Lib.hid (own_below X7.out AL.out)
  have x8 := Lib.hid (K.old x7.out (.cells #[.int .i64 sd, .slice A5 xs.length c5] 40))
  have G8 := Lib.hid (own_below G7.out AL.out)
  clear AL B7 q7 W7 ww7 X7 x7 G7
  have gg8 := Lib.hid (K.new w5 (.cells #[.int .i64 sd, .slice A5 xs.length c5] 40))
  go_wp2_with (first | (with_reducible refine loadTb rfl _ rfl (w5.heap.size) rfl gg8.out ?_) | (with_reducible refine loadTb rfl _ rfl (w3.heap.size) rfl ww8.out ?_))
  refine Calls.mono (eqTabC sd A5 A3 xs.length c5 c3 xs _ (RV.of_own G8.out) (RV.of_own W8.out) rfl hx32) ?_
  rintro e w6 ⟨rfl, b6⟩
  have B9 := Lib.hid (bthen B8.out b6)
  have q9 := Lib.hid (K.below b6 q8.out)
  have W9 := Lib.hid (own_below W8.out b6)
  have ww9 := Lib.hid (K.below b6 ww8.out)
  have X9 := Lib.hid (own_below X8.out b6)
  have x9 := Lib.hid (K.below b6 x8.out)
  have G9 := Lib.hid (own_below G8.out b6)
  have gg9 := Lib.hid (K.below b6 gg8.out)
  clear B8 q8 W8 ww8 X8 x8 G8 gg8
  clear b6
  go_wp2_with fail
  refine wp_region_guards (by kernel_rfl) 4 96 [(0, 41), (1, 42), (2, 43), (3, 44)] _ ([.val (.agg #[.int .i64 s, .slice (some ⟨g4, 0, none⟩) n n]), .val (.agg #[.int .i64 s, .slice A n c]), .pr (TP s n cs) TP.on, .val (.bool true)]) (by kernel_rfl) (by kernel_rfl) (by kernel_rfl) rfl rfl ?_ ?_
  · intro j o hj ho hr a' v K' hx hnd hB hK
    match j, hj, ho, hr with
    | 0, _, ho, _ =>
      obtain rfl := Option.some.inj ho
      have h0 : a'.eval (.tmp 6) = .pointer (some ⟨w4.heap.size, 0, none⟩) := (hx 6 (by decide)).trans rfl
      exact r_tab _ _ _ _ rfl h0 (K.below hB x9.out) (hK _ _ rfl (Below.refl _ _))
    | 1, _, ho, _ =>
      obtain rfl := Option.some.inj ho
      have h0 : a'.eval (.tmp 1) = .pointer (some ⟨w.heap.size, 0, none⟩) := (hx 1 (by decide)).trans rfl
      exact r_tabL _ _ _ _ rfl h0 (K.below hB q9.out) (hK _ _ rfl (Below.refl _ _))
    | 2, _, ho, _ =>
      obtain rfl := Option.some.inj ho
      have h0 : a'.eval (.tmp 42) = .agg #[.int .i64 s, .slice A n c] := (gds_of hnd 1 42 (by kernel_rfl) :)
      refine u_toTab _ _ _ rfl h0 (Calls.mono (toTabP s A n c cs _ (R0.out.on (bthen B9.out hB)) HL.out hn) ?_)
      rintro e' v' ⟨z, rfl, hz, b6⟩
      exact ⟨_, rfl, hK _ _ hz b6⟩
    | 3, _, ho, _ =>
      obtain rfl := Option.some.inj ho
      have h0 : a'.eval (.tmp 41) = .agg #[.int .i64 s, .slice (some ⟨g4, 0, none⟩) n n] := (gds_of hnd 0 41 (by kernel_rfl) :)
      obtain ⟨z6, rfl6, r6⟩ := (gds_of hnd 2 43 (by kernel_rfl) :)
      refine u_eqTab _ _ _ _ _ rfl h0 rfl6 (Calls.mono (eqTabC s _ _ n n n cs _ ((RV.of_own X9.out).on hB) r6 HL.out hn) ?_)
      rintro e' v' ⟨rfl, b6⟩
      exact ⟨_, rfl, hK _ _ rfl b6⟩
    | j + 4, hj, _, _ => omega
  · intro f v hf hB
    have e0 : f 0 = (.agg #[.int .i64 s, .slice (some ⟨g4, 0, none⟩) n n]) := hf (0, 41) (by decide)
    have e1 : f 1 = (.agg #[.int .i64 s, .slice A n c]) := hf (1, 42) (by decide)
    have e3 : f 3 = (.bool true) := hf (3, 44) (by decide)
    simp only [List.foldl_cons, List.foldl_nil, List.drop_succ_cons, List.drop_zero, e0, e1, e3]
    clear e0 e1 e3 hf
    go_simp
    have B10 := Lib.hid (bthen B9.out hB)
    have q10 := Lib.hid (K.below hB q9.out)
    have W10 := Lib.hid (own_below W9.out hB)
    have ww10 := Lib.hid (K.below hB ww9.out)
    have X10 := Lib.hid (own_below X9.out hB)
    have x10 := Lib.hid (K.below hB x9.out)
    have G10 := Lib.hid (own_below G9.out hB)
    have gg10 := Lib.hid (K.below hB gg9.out)
    clear B9 q9 W9 ww9 X9 x9 G9 gg9
    clear hB
    go_wp2_with (with_reducible refine loadTb rfl _ rfl (w4.heap.size) rfl x10.out ?_)
    refine Calls.mono (markTabC s (some ⟨g4, 0, none⟩) n n _ _ 1 _ X10.out hn (by omega) (by omega)) ?_
    rintro e w8 ⟨rfl, o8, gr⟩
    have B11 := Lib.hid (bgrown B10.out gr (fun q hq => by have h2 := LX.out q hq; have h3 := ZX.out; first | omega | (simp only [World.size_alloc] at *; omega)))
    have q11 := Lib.hid (K.kept gr q10.out (fun q hq => own_neT X10.out q10.out (by decide) q hq))
    have W11 := Lib.hid (own_grown W10.out gr (fun q hq e => by have h1 := LW.out q hq; have h2 := LX.out q e; first | omega | (simp only [World.size_alloc] at *; omega)))
    have ww11 := Lib.hid (K.kept gr ww10.out (fun q hq => own_neT X10.out ww10.out (by decide) q hq))
    have X11 := Lib.hid o8
    have x11 := Lib.hid (K.kept gr x10.out (fun q hq => own_neT X10.out x10.out (by decide) q hq))
    have G11 := Lib.hid (own_grown G10.out gr (fun q hq e => by have h1 := LG.out q hq; have h2 := LX.out q e; first | omega | (simp only [World.size_alloc] at *; omega)))
    have gg11 := Lib.hid (K.kept gr gg10.out (fun q hq => own_neT X10.out gg10.out (by decide) q hq))
    clear gr B10 q10 W10 ww10 X10 x10 G10 gg10
    clear o8
    have hk9 : ¬ (1 + (n : Int) * 16 < 0) := by omega
    obtain ⟨⟨y0, y1⟩, _⟩ := K.row2 gg11.out
    obtain ⟨⟨y2, y3⟩, _⟩ := K.row2 ww11.out
    go_wp2_with (first | (with_reducible refine loadTb rfl _ rfl (w5.heap.size) rfl gg11.out ?_) | (with_reducible refine loadTb rfl _ rfl (w3.heap.size) rfl ww11.out ?_))
    refine Calls.mono (eqTabC sd A5 A3 xs.length c5 c3 xs _ (RV.of_own G11.out) (RV.of_own W11.out) rfl hx32) ?_
    rintro e w9 ⟨rfl, b9⟩
    have B12 := Lib.hid (bthen B11.out b9)
    have q12 := Lib.hid (K.below b9 q11.out)
    have W12 := Lib.hid (own_below W11.out b9)
    have ww12 := Lib.hid (K.below b9 ww11.out)
    have X12 := Lib.hid (own_below X11.out b9)
    have x12 := Lib.hid (K.below b9 x11.out)
    have G12 := Lib.hid (own_below G11.out b9)
    have gg12 := Lib.hid (K.below b9 gg11.out)
    clear B11 q11 W11 ww11 X11 x11 G11 gg11
    clear b9
    clear X12 hk9 y0 y1 y2 y3
    go_wp2_with (with_reducible refine loadTb rfl _ rfl (w5.heap.size) rfl gg12.out ?_)
    refine Calls.mono (markTabC sd A5 xs.length c5 _ _ 1 _ G12.out hx32 (by omega) (by omega)) ?_
    rintro e wb ⟨rfl, ob, gr⟩
    have B13 := Lib.hid (bgrown B12.out gr (fun q hq => by have h2 := LG.out q hq; have h3 := ZGG.out; first | omega | (simp only [World.size_alloc] at *; omega)))
    have q13 := Lib.hid (K.kept gr q12.out (fun q hq => own_neT G12.out q12.out (by decide) q hq))
    have W13 := Lib.hid (own_grown W12.out gr (fun q hq e => by have h1 := LW.out q hq; have h2 := LG.out q e; have h4 := LX.out g4 rfl; first | omega | (simp only [World.size_alloc] at *; omega)))
    have ww13 := Lib.hid (K.kept gr ww12.out (fun q hq => own_neT G12.out ww12.out (by decide) q hq))
    have x13 := Lib.hid (K.kept gr x12.out (fun q hq => own_neT G12.out x12.out (by decide) q hq))
    have G13 := Lib.hid ob
    have gg13 := Lib.hid (K.kept gr gg12.out (fun q hq => own_neT G12.out gg12.out (by decide) q hq))
    clear gr B12 q12 W12 ww12 x12 G12 gg12
    clear ob
    have hkc : ¬ (1 + (xs.length : Int) * 16 < 0) := by omega
    go_wp2_with (with_reducible refine loadTb rfl _ rfl (w5.heap.size) rfl gg13.out ?_)
    refine Calls.mono (heldTabC sd A5 xs.length c5 1 _ (RV.of_own G13.out) hx32 (by omega) (by omega)) ?_
    rintro e wc ⟨rfl, bc⟩
    have B14 := Lib.hid (bthen B13.out bc)
    have q14 := Lib.hid (K.below bc q13.out)
    have W14 := Lib.hid (own_below W13.out bc)
    have ww14 := Lib.hid (K.below bc ww13.out)
    have x14 := Lib.hid (K.below bc x13.out)
    have G14 := Lib.hid (own_below G13.out bc)
    have gg14 := Lib.hid (K.below bc gg13.out)
    clear B13 q13 W13 ww13 x13 G13 gg13
    clear bc
    go_wp2_with (with_reducible refine loadTbL rfl _ rfl (w.heap.size) rfl q14.out ?_)
    refine Calls.mono (toTabC s A n c cs _ (R0.out.on B14.out) HL.out hn) ?_
    rintro e wd ⟨gd, rfl, od, bd⟩
    have B15 := Lib.hid (bthen B14.out bd)
    have q15 := Lib.hid (K.below bd q14.out)
    have W15 := Lib.hid (own_below W14.out bd)
    have ww15 := Lib.hid (K.below bd ww14.out)
    have x15 := Lib.hid (K.below bd x14.out)
    have G15 := Lib.hid (own_below G14.out bd)
    have gg15 := Lib.hid (K.below bd gg14.out)
    clear B14 q14 W14 ww14 x14 G14 gg14
    have Z15 := Lib.hid (RV.of_own od)
    clear od bd
    go_wp2_with fail
    refine Calls.mono (IC.out _ n n _ Z15.out HL.out hn) ?_
    rintro e we ⟨ve, rfl, ⟨Ae, ne, ce, rfl, oe⟩, be⟩
    obtain rfl := own_len oe
    have ZHH := Lib.hid B15.out.size
    have B16 := Lib.hid (bthen B15.out be)
    have q16 := Lib.hid (K.below be q15.out)
    have W16 := Lib.hid (own_below W15.out be)
    have ww16 := Lib.hid (K.below be ww15.out)
    have x16 := Lib.hid (K.below be x15.out)
    have G16 := Lib.hid (own_below G15.out be)
    have gg16 := Lib.hid (K.below be gg15.out)
    clear B15 q15 W15 ww15 x15 G15 gg15
    have H16 := Lib.hid oe
    have LH := Lib.hid oe.lt
    clear oe be
    have AL := Lib.hid (Joins.below_alloc1 we (.cells #[.int .i64 sd, .slice Ae xs.length ce] 40))
    have B17 := Lib.hid (bthen B16.out AL.out)
    have q17 := Lib.hid (K.old q16.out (.cells #[.int .i64 sd, .slice Ae xs.length ce] 40))
    have W17 := Lib.hid (own_below W16.out AL.out)
    have ww17 := Lib.hid (K.old ww16.out (.cells #[.int .i64 sd, .slice Ae xs.length ce] 40))
    have x17 := Lib.hid (K.old x16.out (.cells #[.int .i64 sd, .slice Ae xs.length ce] 40))
    have G17 := Lib.hid (own_below G16.out AL.out)
    have gg17 := Lib.hid (K.old gg16.out (.cells #[.int .i64 sd, .slice Ae xs.length ce] 40))
    have H17 := Lib.hid (own_below H16.out AL.out)
    clear AL B16 q16 W16 ww16 x16 G16 gg16 H16
    have hh17 := Lib.hid (K.new we (.cells #[.int .i64 sd, .slice Ae xs.length ce] 40))
    go_wp2_with (first | (with_reducible refine loadTb rfl _ rfl (we.heap.size) rfl hh17.out ?_) | (with_reducible refine loadTb rfl _ rfl (w3.heap.size) rfl ww17.out ?_))
    refine Calls.mono (eqTabC sd Ae A3 xs.length ce c3 xs _ (RV.of_own H17.out) (RV.of_own W17.out) rfl hx32) ?_
    rintro e wf ⟨rfl, bf⟩
    have B18 := Lib.hid (bthen B17.out bf)
    have q18 := Lib.hid (K.below bf q17.out)
    have W18 := Lib.hid (own_below W17.out bf)
    have ww18 := Lib.hid (K.below bf ww17.out)
    have x18 := Lib.hid (K.below bf x17.out)
    have G18 := Lib.hid (own_below G17.out bf)
    have gg18 := Lib.hid (K.below bf gg17.out)
    have H18 := Lib.hid (own_below H17.out bf)
    have hh18 := Lib.hid (K.below bf hh17.out)
    clear B17 q17 W17 ww17 x17 G17 gg17 H17 hh17
    clear bf
    go_wp2_with (with_reducible refine loadTb rfl _ rfl (w5.heap.size) rfl gg18.out ?_)
    refine Calls.mono (heldTabC sd A5 xs.length c5 1 _ (RV.of_own G18.out) hx32 (by omega) (by omega)) ?_
    rintro e wg ⟨rfl, bg⟩
    have B19 := Lib.hid (bthen B18.out bg)
    have q19 := Lib.hid (K.below bg q18.out)
    have W19 := Lib.hid (own_below W18.out bg)
    have ww19 := Lib.hid (K.below bg ww18.out)
    have x19 := Lib.hid (K.below bg x18.out)
    have G19 := Lib.hid (own_below G18.out bg)
    have gg19 := Lib.hid (K.below bg gg18.out)
    have H19 := Lib.hid (own_below H18.out bg)
    have hh19 := Lib.hid (K.below bg hh18.out)
    clear B18 q18 W18 ww18 x18 G18 gg18 H18 hh18
    clear bg
    go_wp2
    go_ret
    exact ⟨rfl, B19.out⟩

namespace fnExactTableGrow
open Go.ChangeShapes Go.WideShapes Go.ChangeAt Go.RowKit
open Go.ChangeMaps (open_string shut_string)
theorem own : ownKnob Try.prog.godebug = none := by kernel_rfl
theorem laidOut : laidOutB Try.prog = true := by kernel_rfl

set_option maxRecDepth 100000 in
theorem lifted (os : Os) (started : os.Started) (H : Type) (enc : TypeId × Value → H) :
    ReturnsInHanded {} Try.checked os 12 .any (Rows.fnExactTableGrowSpec.pre6 enc Try.prog Try.f12 Rows.fnExactTableGrowRow.domain false) (Rows.fnExactTableGrowSpec.post enc Try.prog Try.f12 false true false false) := by
  refine returnsInHanded_of_change (C := Try.checked) own started (by kernel_rfl) Try.func12
    (ChangeSpec.witness6 (enc := enc) (C := Try.checked) false ⟨#[], #[.agg #[.int .i64 0, .slice none 0 0]], []⟩ 8 (by kernel_rfl) (by kernel_rfl) (by kernel_rfl) (by kernel_rfl)) ?_
  intro W base args ds gs before hval0 hW _ _
  have hval : ∀ (j : Nat) t v, Try.f12.params[j]? = some t → args[j]? = some v → Value.okWide Try.prog W .any base t v := hval0
  have hW' := hW
  obtain ⟨p, q, hA0, hV, rfl, _, _⟩ := hW
  have hA : DataW.TrodAll enc Try.prog W 0 (fun _ => true) true Try.f12.params.toList args.toList ds p := hA0
  rw [Try.params12] at hA hval
  obtain ⟨v0, vs0, d0, ds0, p0, q0, hargs, rfl, rfl, h0, r0⟩ := trodAll_cons hA
  obtain ⟨rfl, rfl, rfl⟩ := trodAll_nil r0
  obtain rfl : args = #[v0] := by cases args; simp_all
  obtain ⟨rfl, rfl⟩ := trodVars_none hV
  have k0 := h0
  have lt0 : ∀ x ∈ p0, x.block < W.heap.size := by obtain ⟨m, hm⟩ := k0; exact DataW.trod_lt m _ _ _ hm
  obtain ⟨a0, A0, n0, c0, b0, rfl, w0⟩ := tab_in (hval 0 47 v0 rfl rfl) h0
  clear hA0 hval0
  refine (lawTableGrow a0 A0 n0 c0 b0 w0).mono fun e W' ⟨he, bel⟩ => ?_
  subst he
  exact ⟨_, rfl, _, _, _, [], _, [], hW', trodAll_mk1 (shut_bool Try.underlying4 _), (trodAll_cons_mk (Below.trod laidOut (by kernel_rfl) (of_decide_eq_true (by kernel_rfl)) k0 bel lt0) trodAll_mk0), rfl, bel.frame _, fun h => by cases h⟩

theorem proved : Rows.FnExactTableGrowSaid :=
  OpenClaim.holds_of_wide 12 Try.f12 rfl rfl rfl rfl rfl rfl rfl ⟨rfl, rfl, rfl, rfl, rfl⟩ rfl rfl rfl rfl rfl (by kernel_rfl) Try.func12 (by kernel_rfl)
    (of_decide_eq_true (by kernel_rfl)) (by unfold Func.isWrapper; rw [if_neg (of_decide_eq_false (by kernel_rfl))]; exact ⟨rfl, rfl⟩)
    (fun os started H enc _ => lifted os started H enc)
#print axioms proved
end fnExactTableGrow
end Go.Proofs.Ytmfkpiclpkeemaa
