/-
  For every table the law FnExactTableKeys returns true: impl.TableKeys answers what the model spec.TableKeys answers, writes into no argument, and its answer is its own. No condition; the argument reads afterwards as before.
-/
import Derived.Test.YtmfkpiclpkeemaaGH
import Derived.Test.YtmfkpiclpkeemaaGK
import Derived.Test.YtmfkpiclpkeemaaFkEqS
import Derived.Test.YtmfkpiclpkeemaaFkMark
import Derived.Test.YtmfkpiclpkeemaaGC
import Derived.Test.YtmfkpiclpkeemaaRows
import Derived.ShutString
namespace Go.Proofs.Ytmfkpiclpkeemaa
set_option maxRecDepth 100000
open Go.RowKit

theorem own_lenF {w : World} {base n : Nat} {v : Value} {xs : List Fk} (h : w.ownsRow base 33 14 v n (fl Fk.cells xs)) : n = xs.length := by
  have := h.1
  rw [fl_length Fk.cells_length] at this
  omega
theorem own_two {w : World} {b1 b2 n m : Nat} {v u : Value} {xs ys : List Value} (h : w.ownsRow b1 93 16 v n xs) (h2 : w.ownsRow b2 33 14 u m ys) : ∀ k, u.ownBlock = some k → v.ownBlock ≠ some k := by
  intro k hk e
  rcases h2.2 with ⟨rfl, _⟩ | ⟨g, cap, cur, rfl, _, hg, _⟩
  · simp [Value.ownBlock] at hk
  · simp [Value.ownBlock] at hk
    subst hk
    exact own_neT h hg (by decide) _ e rfl

set_option maxHeartbeats 8000000 in
theorem lawTableKeys {w : World} (s : Int) (A : Option Addr) (n c : Nat) (cs : List Ce) (h : FIn Ce.cells w A n c cs) : Calls Try.prog 9 #[.agg #[.int .i64 s, .slice A n c]] w fun e w' => e = .returned (.bool true) ∧ Below w.heap.size w w' := by
  have HL := Lib.hid h.len
  have R0 := Lib.hid h.row
  have hcap := h.cap
  have hbig := h.big
  obtain ⟨ks, hks⟩ : ∃ ks, tabKeys s cs = ks := ⟨_, rfl⟩
  have hx32 : ks.length ≤ 1048576 := by
    rw [← hks]
    unfold tabKeys
    split
    · rename_i ho
      have := tab_len ho
      have := keysOf_length cs
      omega
    · simp
  have SC := Lib.hid (show ∀ (A : Option Addr) (n c : Nat) (v : World), RV v v.heap.size A (fl Ce.cells cs) → cs.length = n → n ≤ 1048576 → Calls Try.prog 35 #[.agg #[.int .i64 s, .slice A n c]] v fun e w' => ∃ D m d, e = .returned (.slice D m d) ∧ w'.ownsRow v.heap.size 33 14 (.slice D m d) m (fl Fk.cells ks) ∧ Below v.heap.size v w' from fun A n c v h1 h2 h3 => hks ▸ tabKeysS s A n c cs v h1 h2 h3)
  have IC := Lib.hid (show ∀ (A : Option Addr) (n c : Nat) (v : World), RV v v.heap.size A (fl Ce.cells cs) → cs.length = n → n ≤ 1048576 → Calls Try.prog 36 #[.agg #[.int .i64 s, .slice A n c]] v fun e w' => ∃ D m d, e = .returned (.slice D m d) ∧ w'.ownsRow v.heap.size 33 14 (.slice D m d) m (fl Fk.cells ks) ∧ Below v.heap.size v w' from fun A n c v h1 h2 h3 => hks ▸ tabKeysI s A n c cs v h1 h2 h3)
  clear h hks
  have q0 := Lib.hid (K.new w (.cells #[.int .i64 s, .slice A n c] 47))
  have HB := Lib.hid (Joins.below_alloc1 w (.cells #[.int .i64 s, .slice A n c] 47))
  go_enter Try.func9, Try.ntmps9
  go_wp2_with (with_reducible refine loadTbL rfl _ rfl w.heap.size rfl q0.out ?_)
  refine Calls.mono (szTabC s A n c 1048576 _ (by omega) (by omega) (Nat.le_trans hcap hbig)) ?_
  rintro e w1 ⟨r, rfl, hr, b1⟩
  have q1 := Lib.hid (K.below b1 q0.out)
  have B1 := Lib.hid (bthen HB.out b1)
  clear b1 q0
  by_cases hr0 : r < 0
  · clear hr
    go_wp2
    go_ret
    exact ⟨rfl, B1.out⟩
  have hn : n ≤ 1048576 := by omega
  have hrr : 0 ≤ r := by omega
  clear hr hr0
  go_wp2_with (with_reducible refine loadTbL rfl _ rfl (w.heap.size) rfl q1.out ?_)
  refine Calls.mono (toTabC s A n c cs _ (R0.out.on B1.out) HL.out hn) ?_
  rintro e w2 ⟨g2, rfl, o2, b2⟩
  have B2 := Lib.hid (bthen B1.out b2)
  have q2 := Lib.hid (K.below b2 q1.out)
  clear B1 q1
  have Z2 := Lib.hid (RV.of_own o2)
  clear o2 b2
  go_wp2_with fail
  refine Calls.mono (SC.out _ n n _ Z2.out HL.out hn) ?_
  rintro e w3 ⟨D3, m3, d3, rfl, o3, b3⟩
  obtain rfl := own_lenF o3
  have B3 := Lib.hid (bthen B2.out b3)
  have q3 := Lib.hid (K.below b3 q2.out)
  have Z3 := Lib.hid (Z2.out.on b3)
  clear B2 q2 Z2
  clear Z3
  have W3 := Lib.hid o3
  have LW := Lib.hid o3.lt
  clear o3 b3
  go_wp2_with (with_reducible refine loadTbL rfl _ rfl (w.heap.size) rfl q3.out ?_)
  refine Calls.mono (toTabC s A n c cs _ (R0.out.on B3.out) HL.out hn) ?_
  rintro e w4 ⟨g4, rfl, o4, b4⟩
  have ZX := Lib.hid B3.out.size
  have B4 := Lib.hid (bthen B3.out b4)
  have q4 := Lib.hid (K.below b4 q3.out)
  have W4 := Lib.hid (own_below W3.out b4)
  clear B3 q3 W3
  have X4 := Lib.hid o4
  have LX := Lib.hid o4.lt
  clear o4 b4
  have AL := Lib.hid (Joins.below_alloc1 w4 (.cells #[.int .i64 s, .slice (some ⟨g4, 0, none⟩) n n] 40))
  have B5 := Lib.hid (bthen B4.out AL.out)
  have q5 := Lib.hid (K.old q4.out (.cells #[.int .i64 s, .slice (some ⟨g4, 0, none⟩) n n] 40))
  have W5 := Lib.hid (own_below W4.out AL.out)
  have X5 := Lib.hid (own_below X4.out AL.out)
  clear AL B4 q4 W4 X4
  have x5 := Lib.hid (K.new w4 (.cells #[.int .i64 s, .slice (some ⟨g4, 0, none⟩) n n] 40))
  go_wp2_with (with_reducible refine loadTb rfl _ rfl (w4.heap.size) rfl x5.out ?_)
  refine Calls.mono (IC.out _ n n _ (RV.of_own X5.out) HL.out hn) ?_
  rintro e w5 ⟨D5, m5, d5, rfl, o5, b5⟩
  obtain rfl := own_lenF o5
  have ZG := Lib.hid B5.out.size
  have B6 := Lib.hid (bthen B5.out b5)
  have q6 := Lib.hid (K.below b5 q5.out)
  have W6 := Lib.hid (own_below W5.out b5)
  have X6 := Lib.hid (own_below X5.out b5)
  have x6 := Lib.hid (K.below b5 x5.out)
  clear B5 q5 W5 X5 x5
  have G6 := Lib.hid o5
  have LG := Lib.hid o5.lt
  clear o5 b5
  go_wp2_with fail
  refine Calls.mono (eqFlowKeyS_C D5 D3 ks.length d5 d3 ks _ (RV.of_own G6.out) (RV.of_own W6.out) rfl hx32) ?_
  rintro e w6 ⟨rfl, b6⟩
  have B7 := Lib.hid (bthen B6.out b6)
  have q7 := Lib.hid (K.below b6 q6.out)
  have W7 := Lib.hid (own_below W6.out b6)
  have X7 := Lib.hid (own_below X6.out b6)
  have x7 := Lib.hid (K.below b6 x6.out)
  have G7 := Lib.hid (own_below G6.out b6)
  clear B6 q6 W6 X6 x6 G6
  clear b6
  go_wp2_with fail
  refine wp_region_guards (by kernel_rfl) 4 69 [(0, 27), (1, 28), (2, 29), (3, 30)] _ ([.val (.agg #[.int .i64 s, .slice (some ⟨g4, 0, none⟩) n n]), .val (.agg #[.int .i64 s, .slice A n c]), .pr (TP s n cs) TP.on, .val (.bool true)]) (by kernel_rfl) (by kernel_rfl) (by kernel_rfl) rfl rfl ?_ ?_
  · intro j o hj ho hr a' v K' hx hnd hB hK
    match j, hj, ho, hr with
    | 0, _, ho, _ =>
      obtain rfl := Option.some.inj ho
      have h0 : a'.eval (.tmp 5) = .pointer (some ⟨w4.heap.size, 0, none⟩) := (hx 5 (by decide)).trans rfl
      exact r_tab _ _ _ _ rfl h0 (K.below hB x7.out) (hK _ _ rfl (Below.refl _ _))
    | 1, _, ho, _ =>
      obtain rfl := Option.some.inj ho
      have h0 : a'.eval (.tmp 1) = .pointer (some ⟨w.heap.size, 0, none⟩) := (hx 1 (by decide)).trans rfl
      exact r_tabL _ _ _ _ rfl h0 (K.below hB q7.out) (hK _ _ rfl (Below.refl _ _))
    | 2, _, ho, _ =>
      obtain rfl := Option.some.inj ho
      have h0 : a'.eval (.tmp 28) = .agg #[.int .i64 s, .slice A n c] := (gds_of hnd 1 28 (by kernel_rfl) :)
      refine u_toTab _ _ _ rfl h0 (Calls.mono (toTabP s A n c cs _ (R0.out.on (bthen B7.out hB)) HL.out hn) ?_)
      rintro e' v' ⟨z, rfl, hz, b6⟩
      exact ⟨_, rfl, hK _ _ hz b6⟩
    | 3, _, ho, _ =>
      obtain rfl := Option.some.inj ho
      have h0 : a'.eval (.tmp 27) = .agg #[.int .i64 s, .slice (some ⟨g4, 0, none⟩) n n] := (gds_of hnd 0 27 (by kernel_rfl) :)
      obtain ⟨z6, rfl6, r6⟩ := (gds_of hnd 2 29 (by kernel_rfl) :)
      refine u_eqTab _ _ _ _ _ rfl h0 rfl6 (Calls.mono (eqTabC s _ _ n n n cs _ ((RV.of_own X7.out).on hB) r6 HL.out hn) ?_)
      rintro e' v' ⟨rfl, b6⟩
      exact ⟨_, rfl, hK _ _ rfl b6⟩
    | j + 4, hj, _, _ => omega
  · intro f v hf hB
    have e0 : f 0 = (.agg #[.int .i64 s, .slice (some ⟨g4, 0, none⟩) n n]) := hf (0, 27) (by decide)
    have e1 : f 1 = (.agg #[.int .i64 s, .slice A n c]) := hf (1, 28) (by decide)
    have e3 : f 3 = (.bool true) := hf (3, 30) (by decide)
    simp only [List.foldl_cons, List.foldl_nil, List.drop_succ_cons, List.drop_zero, e0, e1, e3]
    clear e0 e1 e3 hf
    go_simp
    have B8 := Lib.hid (bthen B7.out hB)
    have q8 := Lib.hid (K.below hB q7.out)
    have W8 := Lib.hid (own_below W7.out hB)
    have X8 := Lib.hid (own_below X7.out hB)
    have x8 := Lib.hid (K.below hB x7.out)
    have G8 := Lib.hid (own_below G7.out hB)
    clear B7 q7 W7 X7 x7 G7
    clear hB
    go_wp2_with (with_reducible refine loadTb rfl _ rfl (w4.heap.size) rfl x8.out ?_)
    refine Calls.mono (markTabC s (some ⟨g4, 0, none⟩) n n _ _ 1 _ X8.out hn (by omega) (by omega)) ?_
    rintro e w8 ⟨rfl, o8, gr⟩
    have B9 := Lib.hid (bgrown B8.out gr (fun q hq => by have h2 := LX.out q hq; have h3 := ZX.out; omega))
    have q9 := Lib.hid (K.kept gr q8.out (fun q hq => own_neT X8.out q8.out (by decide) q hq))
    have W9 := Lib.hid (own_grown W8.out gr (fun q hq e => by exact own_two X8.out W8.out q hq e))
    have X9 := Lib.hid o8
    have x9 := Lib.hid (K.kept gr x8.out (fun q hq => own_neT X8.out x8.out (by decide) q hq))
    have G9 := Lib.hid (own_grown G8.out gr (fun q hq e => by exact own_two X8.out G8.out q hq e))
    clear gr B8 q8 W8 X8 x8 G8
    clear o8
    have hk9 : ¬ (1 + (n : Int) * 16 < 0) := by omega
    go_wp2_with fail
    refine Calls.mono (eqFlowKeyS_C D5 D3 ks.length d5 d3 ks _ (RV.of_own G9.out) (RV.of_own W9.out) rfl hx32) ?_
    rintro e w9 ⟨rfl, b9⟩
    have B10 := Lib.hid (bthen B9.out b9)
    have q10 := Lib.hid (K.below b9 q9.out)
    have W10 := Lib.hid (own_below W9.out b9)
    have X10 := Lib.hid (own_below X9.out b9)
    have x10 := Lib.hid (K.below b9 x9.out)
    have G10 := Lib.hid (own_below G9.out b9)
    clear B9 q9 W9 X9 x9 G9
    clear b9
    clear X10 hk9
    go_wp2_with fail
    refine Calls.mono (markFlowKeyS_any 1 _ G10.out (by omega) (by omega) hx32) ?_
    rintro e wb ⟨rfl, ob, gr⟩
    have B11 := Lib.hid (bgrown B10.out gr (fun q hq => by have h2 := LG.out q hq; have h3 := ZG.out; omega))
    have q11 := Lib.hid (K.kept gr q10.out (fun q hq => own_neF G10.out q10.out (by decide) q hq))
    have W11 := Lib.hid (own_grown W10.out gr (fun q hq e => by have h1 := LW.out q hq; have h2 := LG.out q e; have h4 := LX.out g4 rfl; simp only [World.size_alloc] at h2; omega))
    have x11 := Lib.hid (K.kept gr x10.out (fun q hq => own_neF G10.out x10.out (by decide) q hq))
    have G11 := Lib.hid ob
    clear gr B10 q10 W10 x10 G10
    clear ob
    go_wp2_with fail
    refine Calls.mono (heldFlowKeyS_C _ _ _ 1 _ (RV.of_own G11.out) (by omega) (by omega) hx32) ?_
    rintro e wc ⟨rfl, hwc⟩
    subst hwc
    have hkc : ¬ (1 + (ks.length : Int) * 14 < 0) := by omega
    go_wp2_with (with_reducible refine loadTbL rfl _ rfl (w.heap.size) rfl q11.out ?_)
    refine Calls.mono (toTabC s A n c cs _ (R0.out.on B11.out) HL.out hn) ?_
    rintro e wd ⟨gd, rfl, od, bd⟩
    have B12 := Lib.hid (bthen B11.out bd)
    have q12 := Lib.hid (K.below bd q11.out)
    have W12 := Lib.hid (own_below W11.out bd)
    have x12 := Lib.hid (K.below bd x11.out)
    have G12 := Lib.hid (own_below G11.out bd)
    clear B11 q11 W11 x11 G11
    have Z12 := Lib.hid (RV.of_own od)
    clear od bd
    go_wp2_with fail
    refine Calls.mono (IC.out _ n n _ Z12.out HL.out hn) ?_
    rintro e we ⟨De, me, de, rfl, oe, be⟩
    obtain rfl := own_lenF oe
    have B13 := Lib.hid (bthen B12.out be)
    have q13 := Lib.hid (K.below be q12.out)
    have W13 := Lib.hid (own_below W12.out be)
    have x13 := Lib.hid (K.below be x12.out)
    have G13 := Lib.hid (own_below G12.out be)
    have Z13 := Lib.hid (Z12.out.on be)
    clear B12 q12 W12 x12 G12 Z12
    clear Z13
    have H13 := Lib.hid oe
    clear oe be
    go_wp2_with fail
    refine Calls.mono (eqFlowKeyS_C De D3 ks.length de d3 ks _ (RV.of_own H13.out) (RV.of_own W13.out) rfl hx32) ?_
    rintro e wf ⟨rfl, bf⟩
    have B14 := Lib.hid (bthen B13.out bf)
    have q14 := Lib.hid (K.below bf q13.out)
    have W14 := Lib.hid (own_below W13.out bf)
    have x14 := Lib.hid (K.below bf x13.out)
    have G14 := Lib.hid (own_below G13.out bf)
    have H14 := Lib.hid (own_below H13.out bf)
    clear B13 q13 W13 x13 G13 H13
    clear bf
    go_wp2_with fail
    refine Calls.mono (heldFlowKeyS_C _ _ _ 1 _ (RV.of_own G14.out) (by omega) (by omega) hx32) ?_
    rintro e wg ⟨rfl, hwg⟩
    subst hwg
    go_wp2
    go_ret
    exact ⟨rfl, B14.out⟩

namespace fnExactTableKeys
open Go.ChangeShapes Go.WideShapes Go.ChangeAt Go.RowKit
open Go.ChangeMaps (open_string shut_string)
theorem own : ownKnob Try.prog.godebug = none := by kernel_rfl
theorem laidOut : laidOutB Try.prog = true := by kernel_rfl

set_option maxRecDepth 100000 in
theorem lifted (os : Os) (started : os.Started) (H : Type) (enc : TypeId × Value → H) :
    ReturnsInHanded {} Try.checked os 9 .any (Rows.fnExactTableKeysSpec.pre6 enc Try.prog Try.f9 Rows.fnExactTableKeysRow.domain false) (Rows.fnExactTableKeysSpec.post enc Try.prog Try.f9 false true false false) := by
  refine returnsInHanded_of_change (C := Try.checked) own started (by kernel_rfl) Try.func9
    (ChangeSpec.witness6 (enc := enc) (C := Try.checked) false ⟨#[], #[.agg #[.int .i64 0, .slice none 0 0]], []⟩ 8 (by kernel_rfl) (by kernel_rfl) (by kernel_rfl) (by kernel_rfl)) ?_
  intro W base args ds gs before hval0 hW _ _
  have hval : ∀ (j : Nat) t v, Try.f9.params[j]? = some t → args[j]? = some v → Value.okWide Try.prog W .any base t v := hval0
  have hW' := hW
  obtain ⟨p, q, hA0, hV, rfl, _, _⟩ := hW
  have hA : DataW.TrodAll enc Try.prog W 0 (fun _ => true) true Try.f9.params.toList args.toList ds p := hA0
  rw [Try.params9] at hA hval
  obtain ⟨v0, vs0, d0, ds0, p0, q0, hargs, rfl, rfl, h0, r0⟩ := trodAll_cons hA
  obtain ⟨rfl, rfl, rfl⟩ := trodAll_nil r0
  obtain rfl : args = #[v0] := by cases args; simp_all
  obtain ⟨rfl, rfl⟩ := trodVars_none hV
  have k0 := h0
  have lt0 : ∀ x ∈ p0, x.block < W.heap.size := by obtain ⟨m, hm⟩ := k0; exact DataW.trod_lt m _ _ _ hm
  obtain ⟨a0, A0, n0, c0, b0, rfl, w0⟩ := tab_in (hval 0 47 v0 rfl rfl) h0
  clear hA0 hval0
  refine (lawTableKeys a0 A0 n0 c0 b0 w0).mono fun e W' ⟨he, bel⟩ => ?_
  subst he
  exact ⟨_, rfl, _, _, _, [], _, [], hW', trodAll_mk1 (shut_bool Try.underlying4 _), (trodAll_cons_mk (Below.trod laidOut (by kernel_rfl) (of_decide_eq_true (by kernel_rfl)) k0 bel lt0) trodAll_mk0), rfl, bel.frame _, fun h => by cases h⟩

theorem proved : Rows.FnExactTableKeysSaid :=
  OpenClaim.holds_of_wide 9 Try.f9 rfl rfl rfl rfl rfl rfl rfl ⟨rfl, rfl, rfl, rfl, rfl⟩ rfl rfl rfl rfl rfl (by kernel_rfl) Try.func9 (by kernel_rfl)
    (of_decide_eq_true (by kernel_rfl)) (by unfold Func.isWrapper; rw [if_neg (of_decide_eq_false (by kernel_rfl))]; exact ⟨rfl, rfl⟩)
    (fun os started H enc _ => lifted os started H enc)
#print axioms proved
end fnExactTableKeys
end Go.Proofs.Ytmfkpiclpkeemaa
