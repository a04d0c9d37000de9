/-
  For every code of bytes the law FnSwapSum returns true: after a word of the drawn data was exchanged, SumSwap of the previous checksum is the checksum of the new data. No condition; the argument reads afterwards as before.
-/
import Derived.Test.YtfbigjeonajmfaaDraw2
import Derived.Test.YtfbigjeonajmfaaBytesOf
import Derived.Test.YtfbigjeonajmfaaPut
import Derived.Test.YtfbigjeonajmfaaSumMath
import Derived.Test.YtfbigjeonajmfaaSumImpl
import Derived.Test.YtfbigjeonajmfaaSumSpec
import Derived.Test.YtfbigjeonajmfaaInBytes
import Derived.Test.YtfbigjeonajmfaaRows
import Derived.ShutString
namespace Go.Proofs.Ytfbigjeonajmfaa
open Go.RowKit

theorem word_put16 {n : Int} (h : isWord n = true) : 256 * ((byteOf (n / 256)).toNat : Int) + (byteOf n).toNat = n := by
  have := isWord_iff.1 h
  rw [byteOf_val, byteOf_val]
  omega

/-- Data of even length around one of their words. -/
theorem around (dt : List UInt8) (k : Nat) (h : 2 * k + 2 ≤ dt.length) : ∃ (fa fb : List UInt8) (u v : UInt8), dt = fa ++ [u, v] ++ fb ∧ fa.length = 2 * k := by
  refine ⟨dt.take (2 * k), dt.drop (2 * k + 2), dt[2 * k], dt[2 * k + 1], ?_, by rw [List.length_take]; omega⟩
  have e1 : dt.drop (2 * k) = dt[2 * k] :: dt.drop (2 * k + 1) := List.drop_eq_getElem_cons (by omega)
  have e2 : dt.drop (2 * k + 1) = dt[2 * k + 1] :: dt.drop (2 * k + 1 + 1) := List.drop_eq_getElem_cons (by omega)
  have e3 := List.take_append_drop (2 * k) dt
  rw [e1, e2] at e3
  simp

set_option maxRecDepth 100000 in
set_option maxHeartbeats 2000000 in
theorem lawSwapSum {w : World} (A : Option Addr) (n c : Nat) (bs : List UInt8) (hin : In w A n c bs) :
    Calls Try.prog 3 #[.slice A n c] w fun e w' => e = .returned (.bool true) ∧ Below w.heap.size w w' := by
  obtain ⟨rfl, hcap, hbig, hrb⟩ := hin
  unfold maxLen at hbig
  by_cases hn : bs.length ≤ 1048576
  · have hnI : ¬ (1048576 : Int) < (bs.length : Int) := by omega
    go_enter Try.func3, Try.ntmps3
    go_wp2_with fail
    refine (bigC A bs.length c w).mono ?_
    rintro e w0 ⟨rfl, rfl⟩
    go_wp2_with fail
    refine (drawOnes A c bs w hrb hn).mono ?_
    rintro e w1 ⟨ds, D, d, rfl, hl, o1, b1⟩
    by_cases h60 : 60 < ds.length
    · have h60I : (60 : Int) < (ds.length : Int) := by omega
      clear o1
      go_wp2
      go_ret
      exact ⟨rfl, b1⟩
    · have h60I : ¬ (60 : Int) < (ds.length : Int) := by omega
      by_cases h2 : ds.length < 2
      · have h2I : (ds.length : Int) < 2 := by omega
        clear o1
        go_wp2
        go_ret
        exact ⟨rfl, b1⟩
      · have h2I : ¬ (ds.length : Int) < 2 := by omega
        obtain ⟨dt, hdt, hm, hme, hml, hm2⟩ : ∃ dt : List UInt8, w1.ownsRow w.heap.size 5 1 (.slice D dt.length d) dt.length (cellsOf dt) ∧ (ds.length : Int) - (ds.length : Int) % 2 = (dt.length : Int) ∧ dt.length % 2 = 0 ∧ dt.length ≤ 60 ∧ 2 ≤ dt.length := by
          have hlen : (ds.take (ds.length - ds.length % 2)).length = ds.length - ds.length % 2 := by rw [List.length_take]; omega
          refine ⟨ds.take (ds.length - ds.length % 2), ?_, by rw [hlen]; omega, by rw [hlen]; omega, by rw [hlen]; omega, by rw [hlen]; omega⟩
          have := own_front o1 (ds.length - ds.length % 2) (by omega)
          rw [hlen]
          exact this
        have hdc := own_cap hdt
        have hcut := cut_front D ds.length d dt.length hdc
        obtain ⟨h, hh, hh1, hh2⟩ : ∃ h : Nat, (dt.length : Int) / 2 = (h : Int) ∧ 1 ≤ h ∧ 2 * h = dt.length := ⟨dt.length / 2, by omega, by omega, by omega⟩
        obtain ⟨k, hk, hk2⟩ : ∃ k : Nat, pickV bs 1 h = k ∧ k < h := by
          have := pickV_range bs 1 h (by omega)
          exact ⟨(pickV bs 1 h).toNat, by omega, by omega⟩
        obtain ⟨fa, fb, u, v, hdd, hfa⟩ := around dt k (by omega)
        have P1 := pickL A bs.length c bs 1 (h : Int) w1 ((hrb.below b1).more b1.size) rfl hn (by omega) (by omega) (by omega) (by omega)
        rw [hk] at P1
        have hka : 2 * (k : Int) = (fa.length : Int) := by omega
        have hfa2 : fa.length + 2 ≤ dt.length := by omega
        have hfae := Lib.hid (show fa.length % 2 = 0 by omega)
        have Hh := Lib.hid hh2
        have Hd := Lib.hid hdd
        have Hm := Lib.hid hme
        clear o1 hk hh2 hme hfa hdd
        go_wp2_with fail
        refine P1.mono ?_
        rintro e w2 ⟨rfl, rfl⟩
        obtain ⟨x, hx⟩ : ∃ x : Nat, x = 256 * u.toNat + v.toNat := ⟨_, rfl⟩
        have B1 := specBe16 D dt.length d dt fa.length w1 (RB.of_own hdt) rfl (by omega) hfa2
        rw [show be ((dt.drop fa.length).take 2) = x by rw [Hd.out, hx]; simp [be]] at B1
        have Hx := Lib.hid hx
        clear hx
        go_wp2_with fail
        refine B1.mono ?_
        rintro e w3 ⟨rfl, b3⟩
        have b13 := bthen b1 b3
        have o3 := own_below hdt b3
        obtain ⟨p2, hp2, hp2b⟩ : ∃ p : Nat, pickV bs 2 256 = (p : Int) ∧ p < 256 := by
          have := pickV_range bs 2 256 (by omega)
          exact ⟨(pickV bs 2 256).toNat, by omega, by omega⟩
        obtain ⟨p3, hp3, hp3b⟩ : ∃ p : Nat, pickV bs 3 256 = (p : Int) ∧ p < 256 := by
          have := pickV_range bs 3 256 (by omega)
          exact ⟨(pickV bs 3 256).toNat, by omega, by omega⟩
        have P2 := pickL A bs.length c bs 2 256 w3 ((hrb.below b13).more b13.size) rfl hn (by omega) (by omega) (by omega) (by omega)
        have P3 := pickL A bs.length c bs 3 256 w3 ((hrb.below b13).more b13.size) rfl hn (by omega) (by omega) (by omega) (by omega)
        rw [hp2] at P2
        rw [hp3] at P3
        clear hp2 hp3 P1 B1 hdt hcut b1 b3
        obtain ⟨s, hs⟩ : ∃ s : Nat, (p2 : Int) * 256 + (p3 : Int) = (s : Int) := ⟨p2 * 256 + p3, by omega⟩
        have hsw : isWord (s : Int) = true := isWord_iff.2 (by omega)
        go_wp2_with fail
        refine P2.mono ?_
        rintro e w4 ⟨rfl, rfl⟩
        go_wp2_with fail
        refine P3.mono ?_
        rintro e w4 ⟨rfl, rfl⟩
        clear P2 P3
        obtain ⟨a2, ea1, ea2, ea3⟩ : ∃ a2 : Nat, (fa.length : Int) + 2 = (a2 : Int) ∧ IntKind.i64.wrap (a2 : Int) = (a2 : Int) ∧ a2 ≤ dt.length := ⟨fa.length + 2, by omega, by rw [IntKind.wrap_i64]; omega, hfa2⟩
        have hF := cut_front D dt.length d fa.length (by omega)
        have hB := cut_back D dt.length d a2 ea3
        have hfb : fb = dt.drop a2 := by
          rw [Hd.out, show a2 = (fa ++ [u, v]).length by simp; omega]
          simp
        have rbB := (RB.of_own o3.drew).back a2 d hdc
        rw [← hfb] at rbB
        obtain ⟨D', hD'⟩ : ∃ D', D' = (if d = a2 then D else D.map (·.add (a2 * 1))) := ⟨_, rfl⟩
        obtain ⟨d', hd'⟩ : ∃ d', d' = d - a2 := ⟨_, rfl⟩
        rw [← hD'] at rbB
        rw [← hD', ← hd', show dt.length - a2 = fb.length by rw [hfb, List.length_drop]] at hB
        have hfbl : fb.length ≤ 60 := by rw [hfb, List.length_drop]; omega
        have hfal : fa.length ≤ 60 := by omega
        have b4 : Below w.heap.size w w3.drew := b13.drew
        have rbA : RB w3.drew w3.drew.heap.size D fa := by
          have := (RB.of_own o3.drew).front fa.length
          rw [Hd.out] at this
          simpa using this
        have C1 := Lib.hid (bytesOfC D fa.length d fa w3.drew rbA rfl (by omega))
        have RbB := Lib.hid rbB
        have hz3 := b13.size
        clear hD' hd' hfb rbA rbB hm hh hka
        go_wp2_with fail
        clear hs
        go_region_law (first
          | (go_simp; go_at_call 16; with_reducible refine C1.out.mono ?_; rintro e w6 ⟨A6, c6, rfl, o6, b6⟩)
          | (go_simp; go_at_call 17; refine (specPut16 (s : Int) w6).mono ?_; rintro e w7 ⟨rfl, o7, b7⟩)
          | (refine step_append_b (by rfl) (.tmp 51) (.tmp 53) (by rfl) w3.heap.size (.slice A6 fa.length c6) fa (by rfl) (own_below o6 b7) _ (some ⟨w6.heap.size, 0, none⟩) 2 2 (put16 (s : Int)) (by rfl) rfl (RB.of_own o7) (by simp [put16]; omega) (bthen b6 b7).size ?_; intro v8 w8 hown8 hg8 hat8)
          | (refine step_append_b (by rfl) (.tmp 54) (.tmp 58) (by rfl) w3.heap.size v8 (fa ++ put16 (s : Int)) (by rfl) hown8 _ D' fb.length d' fb (by rfl) rfl (RbB.out.below (bgrown (bthen b6 b7) hg8 (fun j hj => (o6.lt j hj).1))) (by simp [put16]; omega) (Nat.le_trans (bthen b6 b7).size hg8.size) ?_; intro v9 w9 hown9 hg9 hat9))
        all_goals
          have b39 := bgrown (bgrown (bthen b6 b7) hg8 (fun j hj => (o6.lt j hj).1)) hg9 (fun j hj => (hown8.lt j hj).1)
          have o39 := own_below o3.drew b39
          have b19 := bthen b4 b39
          obtain ⟨A9, c9, rfl⟩ := own_form hown9
          obtain ⟨nx, hnx⟩ : ∃ nx, nx = fa ++ put16 (s : Int) ++ fb := ⟨_, rfl⟩
          have hnl : nx.length ≤ 200 := by rw [hnx]; simp [put16]; omega
          have hmath := Lib.hid (show onesSum nx ≠ 0 → swap (checksum dt) (x : Int) (s : Int) = checksum nx from fun hz => by
            have hp := word_put16 hsw
            have := swap_sum (a := fa) (b := fb) (u := u) (v := v) (u' := byteOf ((s : Int) / 256)) (v' := byteOf (s : Int)) hfae.out (by omega) (by rw [hnx] at hz; exact hz)
            rw [hp] at this
            rw [Hd.out, hnx, show (x : Int) = 256 * (u.toNat : Int) + v.toNat by rw [Hx.out]; omega]
            exact this)
          rw [← hnx] at hown9
          rw [← hnx]
          clear hnx hat9 hg9 hown8 hg8 hat8 o6 b6 o7 b7 b39 C1 RbB hF hB o3 b4 b13 hsw ea1 ea2
          by_cases z1 : onesSum dt = 0
          · have z1I : (onesSum dt == 0) = true := by rw [beq_iff_eq]; exact z1
            clear z1
            go_wp2_with fail
            refine (specOnes D dt.length d dt w9 (RB.of_own o39) rfl (by omega)).mono ?_
            rintro e w10 ⟨rfl, rfl⟩
            go_wp2
            go_ret
            exact ⟨rfl, b19⟩
          · have z1I : (onesSum dt == 0) = false := by rw [beq_eq_false_iff_ne]; exact z1
            clear z1
            by_cases z2 : onesSum nx = 0
            · have z2I : (onesSum nx == 0) = true := by rw [beq_iff_eq]; exact z2
              clear z2
              go_wp2_with fail
              refine (specOnes D dt.length d dt w9 (RB.of_own o39) rfl (by omega)).mono ?_
              rintro e w10 ⟨rfl, rfl⟩
              go_wp2_with fail
              refine (specOnes A9 nx.length c9 nx w9 (RB.of_own hown9) rfl (by omega)).mono ?_
              rintro e w10 ⟨rfl, rfl⟩
              go_wp2
              go_ret
              exact ⟨rfl, b19⟩
            · have z2I : (onesSum nx == 0) = false := by rw [beq_eq_false_iff_ne]; exact z2
              have hms := Lib.hid (hmath.out z2)
              clear z2 hmath
              go_wp2_with fail
              refine (specOnes D dt.length d dt w9 (RB.of_own o39) rfl (by omega)).mono ?_
              rintro e w10 ⟨rfl, rfl⟩
              go_wp2_with fail
              refine (specOnes A9 nx.length c9 nx w9 (RB.of_own hown9) rfl (by omega)).mono ?_
              rintro e w10 ⟨rfl, rfl⟩
              go_wp2_with fail
              refine (bytesOfC D dt.length d dt w9 (RB.of_own o39) rfl (by omega)).mono ?_
              rintro e w10 ⟨A10, c10, rfl, o10, b10⟩
              go_wp2_with fail
              refine (implCheck A10 dt.length c10 dt w10 (RB.of_own o10) rfl (by omega)).mono ?_
              rintro e w11 ⟨rfl, b11⟩
              have b12 := bthen b10 b11
              have oD := own_below o39 b12
              have oN := own_below hown9 b12
              have b1b := bthen b19 b12
              clear o10 b10 b11 b12 o39 hown9 b19
              go_wp2_with fail
              refine (specCheck D dt.length d dt w11 (RB.of_own oD) rfl (by omega)).mono ?_
              rintro e w12 ⟨rfl, rfl⟩
              go_wp2_with fail
              refine (implSwap (checksum dt) (x : Int) (s : Int) w11).mono ?_
              rintro e w12 ⟨rfl, b12⟩
              rw [hms.out]
              go_wp2_with fail
              refine (bytesOfC A9 nx.length c9 nx w12 (RB.of_own (own_below oN b12)) rfl (by omega)).mono ?_
              rintro e w13 ⟨A13, c13, rfl, o13, b13⟩
              go_wp2_with fail
              refine (implCheck A13 nx.length c13 nx w13 (RB.of_own o13) rfl (by omega)).mono ?_
              rintro e w14 ⟨rfl, b14⟩
              have b1c := bthen (bthen (bthen b1b b12) b13) b14
              have oN2 := own_below (own_below (own_below oN b12) b13) b14
              clear oN oD b12 b13 b14 o13 b1b
              go_wp2_with fail
              refine (bytesOfC A9 nx.length c9 nx w14 (RB.of_own oN2) rfl (by omega)).mono ?_
              rintro e w15 ⟨A15, c15, rfl, o15, b15⟩
              go_wp2_with fail
              refine (implCheck A15 nx.length c15 nx w15 (RB.of_own o15) rfl (by omega)).mono ?_
              rintro e w16 ⟨rfl, b16⟩
              go_wp2_with fail
              refine (specCheck A9 nx.length c9 nx w16 (RB.of_own (own_below (own_below oN2 b15) b16)) rfl (by omega)).mono ?_
              rintro e w17 ⟨rfl, rfl⟩
              go_wp2
              go_ret
              exact ⟨rfl, bthen (bthen b1c b15) b16⟩
  · have hnI : (1048576 : Int) < (bs.length : Int) := by omega
    go_enter Try.func3, Try.ntmps3
    go_wp2_with fail
    refine (bigC A bs.length c w).mono ?_
    rintro e w0 ⟨rfl, rfl⟩
    go_wp2
    go_ret
    exact ⟨rfl, Below.refl _ _⟩

namespace fnSwapSum
open Go.ChangeShapes Go.WideShapes Go.ChangeAt Go.RowKit
open Go.ChangeMaps (open_string shut_string)
theorem own : ownKnob Try.prog.godebug = none := by kernel_rfl
theorem laidOut : laidOutB Try.prog = true := by kernel_rfl

set_option maxRecDepth 100000 in
theorem lifted (os : Os) (started : os.Started) (H : Type) (enc : TypeId × Value → H) :
    ReturnsInHanded {} Try.checked os 3 .any (Rows.fnSwapSumSpec.pre6 enc Try.prog Try.f3 Rows.fnSwapSumRow.domain false) (Rows.fnSwapSumSpec.post enc Try.prog Try.f3 false true false false) := by
  refine returnsInHanded_of_change (C := Try.checked) own started (by kernel_rfl) Try.func3
    (ChangeSpec.witness6 (enc := enc) (C := Try.checked) false ⟨#[], #[.slice none 0 0], []⟩ 8 (by kernel_rfl) (by kernel_rfl) (by kernel_rfl) (by kernel_rfl)) ?_
  intro W base args ds gs before hval0 hW _ _
  have hval : ∀ (j : Nat) t v, Try.f3.params[j]? = some t → args[j]? = some v → Value.okWide Try.prog W .any base t v := hval0
  have hW' := hW
  obtain ⟨p, q, hA0, hV, rfl, _, _⟩ := hW
  have hA : DataW.TrodAll enc Try.prog W 0 (fun _ => true) true Try.f3.params.toList args.toList ds p := hA0
  rw [Try.params3] at hA hval
  obtain ⟨v0, vs0, d0, ds0, p0, q0, hargs, rfl, rfl, h0, r0⟩ := trodAll_cons hA
  obtain ⟨rfl, rfl, rfl⟩ := trodAll_nil r0
  obtain rfl : args = #[v0] := by cases args; simp_all
  obtain ⟨rfl, rfl⟩ := trodVars_none hV
  obtain ⟨a0, n0, c0, rfl⟩ := okWide_slice Try.underlying22 (hval 0 22 v0 rfl rfl)
  have k0 := h0
  have lt0 : ∀ x ∈ p0, x.block < W.heap.size := by obtain ⟨m, hm⟩ := k0; exact DataW.trod_lt m _ _ _ hm
  obtain ⟨b0, w0⟩ := bytes_in h0
  clear hA0 hval0
  refine (lawSwapSum a0 n0 c0 b0 w0).mono fun e W' ⟨he, bel⟩ => ?_
  subst he
  exact ⟨_, rfl, _, _, _, [], _, [], hW', trodAll_mk1 (shut_bool Try.underlying4 _), (trodAll_cons_mk (Below.trod laidOut (by kernel_rfl) (of_decide_eq_true (by kernel_rfl)) k0 bel lt0) trodAll_mk0), rfl, bel.frame _, fun h => by cases h⟩

theorem proved : Rows.FnSwapSumSaid :=
  OpenClaim.holds_of_wide 3 Try.f3 rfl rfl rfl rfl rfl rfl rfl ⟨rfl, rfl, rfl, rfl, rfl⟩ rfl rfl rfl rfl rfl (by kernel_rfl) Try.func3 (by kernel_rfl)
    (of_decide_eq_true (by kernel_rfl)) (by unfold Func.isWrapper; rw [if_neg (of_decide_eq_false (by kernel_rfl))]; exact ⟨rfl, rfl⟩)
    (fun os started H enc _ => lifted os started H enc)
#print axioms proved
end fnSwapSum
end Go.Proofs.Ytfbigjeonajmfaa
