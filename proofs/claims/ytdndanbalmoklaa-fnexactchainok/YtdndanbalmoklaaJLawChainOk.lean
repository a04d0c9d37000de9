/-
  For every chain of modules the law FnExactChainOk returns true: impl.ChainOk answers what the model spec.ChainOk answers, and leaves the chain as it was. No condition; the argument reads afterwards as before.
-/
import Derived.Test.YtdndanbalmoklaaChainI
import Derived.Test.YtdndanbalmoklaaKuA
import Derived.Test.YtdndanbalmoklaaKuB
import Derived.Test.YtdndanbalmoklaaKuC
import Derived.Test.YtdndanbalmoklaaInMo
import Derived.Test.YtdndanbalmoklaaRows
import Derived.ShutString
namespace Go.Proofs.Ytdndanbalmoklaa
set_option maxRecDepth 100000
open Go.RowKit

set_option maxHeartbeats 2000000 in
theorem lawChainOk {w : World} (A : Option Addr) (n c : Nat) (rs : List Mo) (h : FIn Mo.cells w A n c rs) : Calls Try.prog 4 #[.slice A n c] w fun e w' => e = .returned (.bool true) ∧ Below w.heap.size w w' := by
  have HL := Lib.hid h.len
  have R0 := Lib.hid h.row
  have hc := h.cap
  have hm := h.big
  obtain ⟨b, hb⟩ : ∃ b, chainOk rs = b := ⟨_, rfl⟩
  have HB := Lib.hid hb
  clear h hb
  go_enter Try.func4, Try.ntmps4
  go_wp2_with fail
  refine Calls.mono (szModuleS_C A n c 1048576 _ (by omega) (by omega) (Nat.le_trans hc hm)) ?_
  rintro e w1 ⟨r, rfl, hr, rfl⟩
  by_cases h0 : r < 0
  · clear hr
    go_wp2
    go_ret
    exact ⟨rfl, by go_grown⟩
  have hn : n ≤ 1048576 := by omega
  have hr0 : 0 ≤ r := by omega
  clear hr h0
  go_wp2_with fail
  refine Calls.mono (toModuleS_C A n c rs _ R0.out HL.out hn) ?_
  rintro e w2 ⟨g2, rfl, o2, b2⟩
  have B2 := Lib.hid b2
  have X2 := Lib.hid (RV.of_own o2)
  clear o2 b2
  go_wp2_with fail
  refine Calls.mono (chainOkS _ n n rs _ X2.out HL.out hn) ?_
  rintro e w3 ⟨rfl, b3⟩
  rw [HB.out]
  have B3 := Lib.hid (bthen B2.out b3)
  clear b3 X2 B2
  go_wp2_with fail
  refine Calls.mono (toModuleS_C A n c rs _ (R0.out.on B3.out) HL.out hn) ?_
  rintro e w4 ⟨g4, rfl, o4, b4⟩
  have B4 := Lib.hid (bthen B3.out b4)
  have X4 := Lib.hid (RV.of_own o4)
  clear o4 b4 B3
  go_wp2_with fail
  refine Calls.mono (chainOkI _ n n rs _ X4.out HL.out hn) ?_
  rintro e w5 ⟨rfl, b5⟩
  rw [HB.out]
  have B5 := Lib.hid (bthen B4.out b5)
  have X5 := Lib.hid (X4.out.on b5)
  clear b5 X4 B4
  go_wp2_with fail
  refine Calls.mono (toModuleS_C A n c rs _ (R0.out.on B5.out) HL.out hn) ?_
  rintro e w6 ⟨g6, rfl, o6, b6⟩
  have B6 := Lib.hid (bthen B5.out b6)
  have X6 := Lib.hid (RV.of_own o6)
  have Y6 := Lib.hid (X5.out.on b6)
  clear o6 b6 B5 X5
  go_wp2_with fail
  refine Calls.mono (eqModuleS_C _ _ n n n rs _ Y6.out X6.out HL.out hn) ?_
  rintro e w7 ⟨rfl, b7⟩
  have B7 := Lib.hid (bthen B6.out b7)
  clear b7 B6 X6 Y6
  go_wp2
  go_ret
  exact ⟨rfl, B7.out⟩

namespace fnExactChainOk
open Go.ChangeShapes Go.WideShapes Go.ChangeAt Go.RowKit
open Go.ChangeMaps (open_string shut_string)
theorem own : ownKnob Try.prog.godebug = none := by kernel_rfl
theorem laidOut : laidOutB Try.prog = true := by kernel_rfl

set_option maxRecDepth 100000 in
theorem lifted (os : Os) (started : os.Started) (H : Type) (enc : TypeId × Value → H) :
    ReturnsInHanded {} Try.checked os 4 .any (Rows.fnExactChainOkSpec.pre6 enc Try.prog Try.f4 Rows.fnExactChainOkRow.domain false) (Rows.fnExactChainOkSpec.post enc Try.prog Try.f4 false true false false) := by
  refine returnsInHanded_of_change (C := Try.checked) own started (by kernel_rfl) Try.func4
    (ChangeSpec.witness6 (enc := enc) (C := Try.checked) false ⟨#[], #[.slice none 0 0], []⟩ 8 (by kernel_rfl) (by kernel_rfl) (by kernel_rfl) (by kernel_rfl)) ?_
  intro W base args ds gs before hval0 hW _ _
  have hval : ∀ (j : Nat) t v, Try.f4.params[j]? = some t → args[j]? = some v → Value.okWide Try.prog W .any base t v := hval0
  have hW' := hW
  obtain ⟨p, q, hA0, hV, rfl, _, _⟩ := hW
  have hA : DataW.TrodAll enc Try.prog W 0 (fun _ => true) true Try.f4.params.toList args.toList ds p := hA0
  rw [Try.params4] at hA hval
  obtain ⟨v0, vs0, d0, ds0, p0, q0, hargs, rfl, rfl, h0, r0⟩ := trodAll_cons hA
  obtain ⟨rfl, rfl, rfl⟩ := trodAll_nil r0
  obtain rfl : args = #[v0] := by cases args; simp_all
  obtain ⟨rfl, rfl⟩ := trodVars_none hV
  obtain ⟨a0, n0, c0, rfl⟩ := okWide_slice Try.underlying36 (hval 0 36 v0 rfl rfl)
  have k0 := h0
  have lt0 : ∀ x ∈ p0, x.block < W.heap.size := by obtain ⟨m, hm⟩ := k0; exact DataW.trod_lt m _ _ _ hm
  obtain ⟨b0, w0⟩ := mos_in h0
  clear hA0 hval0
  refine (lawChainOk a0 n0 c0 b0 w0).mono fun e W' ⟨he, bel⟩ => ?_
  subst he
  exact ⟨_, rfl, _, _, _, [], _, [], hW', trodAll_mk1 (shut_bool Try.underlying4 _), (trodAll_cons_mk (Below.trod laidOut (by kernel_rfl) (of_decide_eq_true (by kernel_rfl)) k0 bel lt0) trodAll_mk0), rfl, bel.frame _, fun h => by cases h⟩

theorem proved : Rows.FnExactChainOkSaid :=
  OpenClaim.holds_of_wide 4 Try.f4 rfl rfl rfl rfl rfl rfl rfl ⟨rfl, rfl, rfl, rfl, rfl⟩ rfl rfl rfl rfl rfl (by kernel_rfl) Try.func4 (by kernel_rfl)
    (of_decide_eq_true (by kernel_rfl)) (by unfold Func.isWrapper; rw [if_neg (of_decide_eq_false (by kernel_rfl))]; exact ⟨rfl, rfl⟩)
    (fun os started H enc _ => lifted os started H enc)
#print axioms proved
end fnExactChainOk
end Go.Proofs.Ytdndanbalmoklaa
