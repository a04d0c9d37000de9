/-
  For every table the law FnExactTableUsed returns true: impl.TableUsed answers what the model spec.TableUsed answers, and leaves the table as it was. No condition; the argument reads afterwards as before.
-/
import Derived.Test.YtmfkpiclpkeemaaGE
import Derived.Test.YtmfkpiclpkeemaaGF
import Derived.Test.YtmfkpiclpkeemaaGC
import Derived.Test.YtmfkpiclpkeemaaRows
import Derived.ShutString
namespace Go.Proofs.Ytmfkpiclpkeemaa
set_option maxRecDepth 100000
open Go.RowKit

set_option maxHeartbeats 4000000 in
theorem lawTableUsed {w : World} (s : Int) (A : Option Addr) (n c : Nat) (cs : List Ce) (h : FIn Ce.cells w A n c cs) : Calls Try.prog 7 #[.agg #[.int .i64 s, .slice A n c]] w fun e w' => e = .returned (.bool true) ∧ Below w.heap.size w w' := by
  have HL := Lib.hid h.len
  have R0 := Lib.hid h.row
  have hcap := h.cap
  have hbig := h.big
  obtain ⟨b, hb⟩ : ∃ b, tabUsed s cs = b := ⟨_, rfl⟩
  have SC := Lib.hid (show ∀ (A : Option Addr) (n c : Nat) (v : World), RV v v.heap.size A (fl Ce.cells cs) → cs.length = n → n ≤ 1048576 → Calls Try.prog 31 #[.agg #[.int .i64 s, .slice A n c]] v fun e w' => e = .returned (.int .i64 b) ∧ Below v.heap.size v w' from fun A n c v h1 h2 h3 => hb ▸ tabUsedS s A n c cs v h1 h2 h3)
  have IC := Lib.hid (show ∀ (A : Option Addr) (n c : Nat) (v : World), RV v v.heap.size A (fl Ce.cells cs) → cs.length = n → n ≤ 1048576 → Calls Try.prog 32 #[.agg #[.int .i64 s, .slice A n c]] v fun e w' => e = .returned (.int .i64 b) ∧ Below v.heap.size v w' from fun A n c v h1 h2 h3 => hb ▸ tabUsedI s A n c cs v h1 h2 h3)
  clear h hb
  have q0 := Lib.hid (K.new w (.cells #[.int .i64 s, .slice A n c] 47))
  have HB := Lib.hid (Joins.below_alloc1 w (.cells #[.int .i64 s, .slice A n c] 47))
  go_enter Try.func7, Try.ntmps7
  go_wp2_with (with_reducible refine loadTbL rfl _ rfl w.heap.size rfl q0.out ?_)
  refine Calls.mono (szTabC s A n c 1048576 _ (by omega) (by omega) (Nat.le_trans hcap hbig)) ?_
  rintro e w1 ⟨r, rfl, hr, b1⟩
  have q1 := Lib.hid (K.below b1 q0.out)
  have B1 := Lib.hid (bthen HB.out b1)
  clear b1 q0
  by_cases hr0 : r < 0
  · clear hr
    go_wp2
    go_ret
    exact ⟨rfl, B1.out⟩
  have hn : n ≤ 1048576 := by omega
  have hrr : 0 ≤ r := by omega
  clear hr hr0
  go_wp2_with (with_reducible refine loadTbL rfl _ rfl w.heap.size rfl q1.out ?_)
  refine Calls.mono (toTabC s A n c cs _ (R0.out.on B1.out) HL.out hn) ?_
  rintro e w2 ⟨g2, rfl, o2, b2⟩
  have q2 := Lib.hid (K.below b2 q1.out)
  have B2 := Lib.hid (bthen B1.out b2)
  have X2 := Lib.hid (RV.of_own o2)
  clear o2 b2 q1
  go_wp2_with fail
  refine Calls.mono (SC.out _ n n _ X2.out HL.out hn) ?_
  rintro e w3 ⟨rfl, b3⟩
  have q3 := Lib.hid (K.below b3 q2.out)
  have B3 := Lib.hid (bthen B2.out b3)
  clear b3 q2 X2
  go_wp2_with (with_reducible refine loadTbL rfl _ rfl w.heap.size rfl q3.out ?_)
  refine Calls.mono (toTabC s A n c cs _ (R0.out.on B3.out) HL.out hn) ?_
  rintro e w4 ⟨g4, rfl, o4, b4⟩
  have q4 := Lib.hid (K.old (K.below b4 q3.out) (.cells #[.int .i64 s, .slice (some ⟨g4, 0, none⟩) n n] 40))
  have x4 := Lib.hid (K.new w4 (.cells #[.int .i64 s, .slice (some ⟨g4, 0, none⟩) n n] 40))
  have B4 := Lib.hid (bthen (bthen B3.out b4) (Joins.below_alloc1 w4 (.cells #[.int .i64 s, .slice (some ⟨g4, 0, none⟩) n n] 40)))
  have X4 := Lib.hid ((RV.of_own o4).on (Joins.below_alloc1 w4 (.cells #[.int .i64 s, .slice (some ⟨g4, 0, none⟩) n n] 40)))
  clear o4 b4 q3
  go_wp2_with (with_reducible refine loadTb rfl _ rfl w4.heap.size rfl x4.out ?_)
  refine Calls.mono (IC.out _ n n _ X4.out HL.out hn) ?_
  rintro e w5 ⟨rfl, b5⟩
  have q5 := Lib.hid (K.below b5 q4.out)
  have x5 := Lib.hid (K.below b5 x4.out)
  have X5 := Lib.hid (X4.out.on b5)
  have B5 := Lib.hid (bthen B4.out b5)
  clear b5 q4 x4 X4
  go_wp2_with fail
  refine wp_region_guards (by kernel_rfl) 4 27 [(0, 22), (1, 23), (2, 24), (3, 25)] _ ([.val (.agg #[.int .i64 s, .slice (some ⟨g4, 0, none⟩) n n]), .val (.agg #[.int .i64 s, .slice A n c]), .pr (TP s n cs) TP.on, .val (.bool true)]) (by kernel_rfl) (by kernel_rfl) (by kernel_rfl) rfl rfl ?_ ?_
  · intro j o hj ho hr a' v K' hx hnd hB hK
    match j, hj, ho, hr with
    | 0, _, ho, _ =>
      obtain rfl := Option.some.inj ho
      have h0 : a'.eval (.tmp 5) = .pointer (some ⟨w4.heap.size, 0, none⟩) := (hx 5 (by decide)).trans rfl
      exact r_tab _ _ _ _ rfl h0 (K.below hB x5.out) (hK _ _ rfl (Below.refl _ _))
    | 1, _, ho, _ =>
      obtain rfl := Option.some.inj ho
      have h0 : a'.eval (.tmp 1) = .pointer (some ⟨w.heap.size, 0, none⟩) := (hx 1 (by decide)).trans rfl
      exact r_tabL _ _ _ _ rfl h0 (K.below hB q5.out) (hK _ _ rfl (Below.refl _ _))
    | 2, _, ho, _ =>
      obtain rfl := Option.some.inj ho
      have h0 : a'.eval (.tmp 23) = .agg #[.int .i64 s, .slice A n c] := (gds_of hnd 1 23 (by kernel_rfl) :)
      refine u_toTab _ _ _ rfl h0 (Calls.mono (toTabP s A n c cs _ (R0.out.on (bthen B5.out hB)) HL.out hn) ?_)
      rintro e' v' ⟨z, rfl, hz, b6⟩
      exact ⟨_, rfl, hK _ _ hz b6⟩
    | 3, _, ho, _ =>
      obtain rfl := Option.some.inj ho
      have h0 : a'.eval (.tmp 22) = .agg #[.int .i64 s, .slice (some ⟨g4, 0, none⟩) n n] := (gds_of hnd 0 22 (by kernel_rfl) :)
      obtain ⟨z6, rfl6, r6⟩ := (gds_of hnd 2 24 (by kernel_rfl) :)
      refine u_eqTab _ _ _ _ _ rfl h0 rfl6 (Calls.mono (eqTabC s _ _ n n n cs _ (X5.out.on hB) r6 HL.out hn) ?_)
      rintro e' v' ⟨rfl, b6⟩
      exact ⟨_, rfl, hK _ _ rfl b6⟩
    | j + 4, hj, _, _ => omega
  · intro f v hf hB
    have e0 : f 0 = (.agg #[.int .i64 s, .slice (some ⟨g4, 0, none⟩) n n]) := hf (0, 22) (by decide)
    have e1 : f 1 = (.agg #[.int .i64 s, .slice A n c]) := hf (1, 23) (by decide)
    have e3 : f 3 = (.bool true) := hf (3, 25) (by decide)
    simp only [List.foldl_cons, List.foldl_nil, List.drop_succ_cons, List.drop_zero, e0, e1, e3]
    clear e0 e1 e3 hf
    go_simp
    have B6 := Lib.hid (bthen B5.out hB)
    clear hB
    go_wp2
    go_ret
    exact ⟨rfl, B6.out⟩

namespace fnExactTableUsed
open Go.ChangeShapes Go.WideShapes Go.ChangeAt Go.RowKit
open Go.ChangeMaps (open_string shut_string)
theorem own : ownKnob Try.prog.godebug = none := by kernel_rfl
theorem laidOut : laidOutB Try.prog = true := by kernel_rfl

set_option maxRecDepth 100000 in
theorem lifted (os : Os) (started : os.Started) (H : Type) (enc : TypeId × Value → H) :
    ReturnsInHanded {} Try.checked os 7 .any (Rows.fnExactTableUsedSpec.pre6 enc Try.prog Try.f7 Rows.fnExactTableUsedRow.domain false) (Rows.fnExactTableUsedSpec.post enc Try.prog Try.f7 false true false false) := by
  refine returnsInHanded_of_change (C := Try.checked) own started (by kernel_rfl) Try.func7
    (ChangeSpec.witness6 (enc := enc) (C := Try.checked) false ⟨#[], #[.agg #[.int .i64 0, .slice none 0 0]], []⟩ 8 (by kernel_rfl) (by kernel_rfl) (by kernel_rfl) (by kernel_rfl)) ?_
  intro W base args ds gs before hval0 hW _ _
  have hval : ∀ (j : Nat) t v, Try.f7.params[j]? = some t → args[j]? = some v → Value.okWide Try.prog W .any base t v := hval0
  have hW' := hW
  obtain ⟨p, q, hA0, hV, rfl, _, _⟩ := hW
  have hA : DataW.TrodAll enc Try.prog W 0 (fun _ => true) true Try.f7.params.toList args.toList ds p := hA0
  rw [Try.params7] at hA hval
  obtain ⟨v0, vs0, d0, ds0, p0, q0, hargs, rfl, rfl, h0, r0⟩ := trodAll_cons hA
  obtain ⟨rfl, rfl, rfl⟩ := trodAll_nil r0
  obtain rfl : args = #[v0] := by cases args; simp_all
  obtain ⟨rfl, rfl⟩ := trodVars_none hV
  have k0 := h0
  have lt0 : ∀ x ∈ p0, x.block < W.heap.size := by obtain ⟨m, hm⟩ := k0; exact DataW.trod_lt m _ _ _ hm
  obtain ⟨a0, A0, n0, c0, b0, rfl, w0⟩ := tab_in (hval 0 47 v0 rfl rfl) h0
  clear hA0 hval0
  refine (lawTableUsed a0 A0 n0 c0 b0 w0).mono fun e W' ⟨he, bel⟩ => ?_
  subst he
  exact ⟨_, rfl, _, _, _, [], _, [], hW', trodAll_mk1 (shut_bool Try.underlying4 _), (trodAll_cons_mk (Below.trod laidOut (by kernel_rfl) (of_decide_eq_true (by kernel_rfl)) k0 bel lt0) trodAll_mk0), rfl, bel.frame _, fun h => by cases h⟩

theorem proved : Rows.FnExactTableUsedSaid :=
  OpenClaim.holds_of_wide 7 Try.f7 rfl rfl rfl rfl rfl rfl rfl ⟨rfl, rfl, rfl, rfl, rfl⟩ rfl rfl rfl rfl rfl (by kernel_rfl) Try.func7 (by kernel_rfl)
    (of_decide_eq_true (by kernel_rfl)) (by unfold Func.isWrapper; rw [if_neg (of_decide_eq_false (by kernel_rfl))]; exact ⟨rfl, rfl⟩)
    (fun os started H enc _ => lifted os started H enc)
#print axioms proved
end fnExactTableUsed
end Go.Proofs.Ytmfkpiclpkeemaa
