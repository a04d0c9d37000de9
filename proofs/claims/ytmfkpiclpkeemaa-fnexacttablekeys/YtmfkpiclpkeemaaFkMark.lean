/-
  The laws' own marks on a list of structs: set, and looked for.
-/
import Derived.Test.YtmfkpiclpkeemaaFk
import Derived.Deep.Cut
import Derived.IntWalk
namespace Go.Proofs.Ytmfkpiclpkeemaa
set_option maxRecDepth 100000
open Go.RowKit

def Fk.kinds : List Bool := [false, false, false, false, false, false, false, false, false, false, false, false, false, false]
theorem Fk.kinds_length : Fk.kinds.length = 14 := rfl

set_option maxHeartbeats 400000 in
theorem markFlowKeyS_0 (A : Option Addr) (c : Nat) (k : Int) (w : World) : Calls Try.prog 38 #[.slice A 0 c, .int .i64 k] w fun e w' => e = .returned (.int .i64 k) ∧ w = w' := by
  go_enter Try.func38, Try.ntmps38
  go_wp2
  go_loop [1, 5] (fun q i => q = .int .i64 k ∧ i = .int .i64 (0 : Int)) (fun _ i => 0)
  case atStart => exact ⟨rfl, rfl⟩
  case round =>
    obtain ⟨rfl, rfl⟩ := hrel
    go_wp2
    go_ret
    exact ⟨rfl, rfl⟩

set_option maxHeartbeats 2000000 in
theorem markFlowKeyS_C {base g cap n : Nat} {xs : List Value} (k0 : Int) (w : World) (hown : w.ownsRow base 33 14 (.slice (some ⟨g, 0, none⟩) n cap) n xs) (h0 : 0 ≤ k0) (h1 : k0 ≤ 1000000000) (hn : n ≤ 1048576) :
    Calls Try.prog 38 #[.slice (some ⟨g, 0, none⟩) n cap, .int .i64 k0] w fun e w' => e = .returned (.int .i64 (k0 + n * 14)) ∧ w'.ownsRow base 33 14 (.slice (some ⟨g, 0, none⟩) n cap) n (marksN Fk.kinds n k0) ∧ w.grownBy w' (some g) := by
  have O0 := Lib.hid hown
  have HL : Hid (xs.length = n * 14) := Lib.hid hown.1
  clear hown
  go_enter Try.func38, Try.ntmps38
  go_wp2
  go_loopw [1, 5] (fun q i wr => ∃ j : Nat, j ≤ n ∧ i = .int .i64 j ∧ q = .int .i64 (k0 + j * 14) ∧ Hid (wr.ownsRow base 33 14 (.slice (some ⟨g, 0, none⟩) n cap) n (marksN Fk.kinds j k0 ++ xs.drop (j * 14))) ∧ Hid (w.grownBy wr (some g))) (fun _ i _ => n - (intOf i).toNat)
  case atStart => exact ⟨0, Nat.zero_le _, rfl, by go_num, Lib.hid (by simpa [marksN] using O0.out), Lib.hid (grown_refl _ _)⟩
  case round =>
    obtain ⟨j, hj, rfl, rfl, P0, G0⟩ := hrel
    clear O0
    by_cases hlt : j < n
    · obtain ⟨K0, hK⟩ : ∃ K : Int, K = k0 + j * 14 := ⟨_, rfl⟩
      rw [← hK]
      have HK := Lib.hid hK
      have lo0 : 0 ≤ K0 := by omega
      have hi0 : K0 ≤ 4000000000 := by omega
      clear hK
      obtain ⟨x0, hx⟩ : ∃ l, l = marksN Fk.kinds j k0 ++ xs.drop (j * 14) := ⟨_, rfl⟩
      rw [← hx] at P0
      have HX := Lib.hid hx
      clear hx
      obtain ⟨u0, c0⟩ := cell_of_own P0.out (j * 14) (by omega)
      have f0 := P0.out.frozenAt (j * 14)
      go_upto_region 5 with fail
      have P1 := Lib.hid (P0.out.stored (j * 14) (.int .i64 K0)).1
      have G1 := Lib.hid (grownBy_trans G0.out (grown_setCell1 _ g (j * 14) (.int .i64 K0)))
      clear c0 f0 P0 G0
      generalize wr.setCell ⟨g, j * 14, none⟩ (.int .i64 K0) = w1 at P1 G1 ⊢
      go_upto_region 6 with fail
      generalize hK1 : K0 + 1 = K1
      have lo1 : 0 ≤ K1 := by omega
      have hi1 : K1 ≤ 4000000000 + 1 := by omega
      have HK1 := Lib.hid hK1
      clear hK1 lo0 hi0
      obtain ⟨u1, c1⟩ := cell_of_own P1.out (j * 14 + 1) (by omega)
      have f1 := P1.out.frozenAt (j * 14 + 1)
      go_upto_region 7 with fail
      have P2 := Lib.hid (P1.out.stored (j * 14 + 1) (.int .i64 K1)).1
      have G2 := Lib.hid (grownBy_trans G1.out (grown_setCell1 _ g (j * 14 + 1) (.int .i64 K1)))
      clear c1 f1 P1 G1
      generalize w1.setCell ⟨g, j * 14 + 1, none⟩ (.int .i64 K1) = w2 at P2 G2 ⊢
      go_upto_region 8 with fail
      generalize hK2 : K1 + 1 = K2
      have lo2 : 0 ≤ K2 := by omega
      have hi2 : K2 ≤ 4000000000 + 2 := by omega
      have HK2 := Lib.hid hK2
      clear hK2 lo1 hi1
      obtain ⟨u2, c2⟩ := cell_of_own P2.out (j * 14 + 2) (by omega)
      have f2 := P2.out.frozenAt (j * 14 + 2)
      go_upto_region 9 with fail
      have P3 := Lib.hid (P2.out.stored (j * 14 + 2) (.int .i64 K2)).1
      have G3 := Lib.hid (grownBy_trans G2.out (grown_setCell1 _ g (j * 14 + 2) (.int .i64 K2)))
      clear c2 f2 P2 G2
      generalize w2.setCell ⟨g, j * 14 + 2, none⟩ (.int .i64 K2) = w3 at P3 G3 ⊢
      go_upto_region 10 with fail
      generalize hK3 : K2 + 1 = K3
      have lo3 : 0 ≤ K3 := by omega
      have hi3 : K3 ≤ 4000000000 + 3 := by omega
      have HK3 := Lib.hid hK3
      clear hK3 lo2 hi2
      obtain ⟨u3, c3⟩ := cell_of_own P3.out (j * 14 + 3) (by omega)
      have f3 := P3.out.frozenAt (j * 14 + 3)
      go_upto_region 11 with fail
      have P4 := Lib.hid (P3.out.stored (j * 14 + 3) (.int .i64 K3)).1
      have G4 := Lib.hid (grownBy_trans G3.out (grown_setCell1 _ g (j * 14 + 3) (.int .i64 K3)))
      clear c3 f3 P3 G3
      generalize w3.setCell ⟨g, j * 14 + 3, none⟩ (.int .i64 K3) = w4 at P4 G4 ⊢
      go_upto_region 12 with fail
      generalize hK4 : K3 + 1 = K4
      have lo4 : 0 ≤ K4 := by omega
      have hi4 : K4 ≤ 4000000000 + 4 := by omega
      have HK4 := Lib.hid hK4
      clear hK4 lo3 hi3
      obtain ⟨u4, c4⟩ := cell_of_own P4.out (j * 14 + 4) (by omega)
      have f4 := P4.out.frozenAt (j * 14 + 4)
      go_upto_region 13 with fail
      have P5 := Lib.hid (P4.out.stored (j * 14 + 4) (.int .i64 K4)).1
      have G5 := Lib.hid (grownBy_trans G4.out (grown_setCell1 _ g (j * 14 + 4) (.int .i64 K4)))
      clear c4 f4 P4 G4
      generalize w4.setCell ⟨g, j * 14 + 4, none⟩ (.int .i64 K4) = w5 at P5 G5 ⊢
      go_upto_region 14 with fail
      generalize hK5 : K4 + 1 = K5
      have lo5 : 0 ≤ K5 := by omega
      have hi5 : K5 ≤ 4000000000 + 5 := by omega
      have HK5 := Lib.hid hK5
      clear hK5 lo4 hi4
      obtain ⟨u5, c5⟩ := cell_of_own P5.out (j * 14 + 5) (by omega)
      have f5 := P5.out.frozenAt (j * 14 + 5)
      go_upto_region 15 with fail
      have P6 := Lib.hid (P5.out.stored (j * 14 + 5) (.int .i64 K5)).1
      have G6 := Lib.hid (grownBy_trans G5.out (grown_setCell1 _ g (j * 14 + 5) (.int .i64 K5)))
      clear c5 f5 P5 G5
      generalize w5.setCell ⟨g, j * 14 + 5, none⟩ (.int .i64 K5) = w6 at P6 G6 ⊢
      go_upto_region 16 with fail
      generalize hK6 : K5 + 1 = K6
      have lo6 : 0 ≤ K6 := by omega
      have hi6 : K6 ≤ 4000000000 + 6 := by omega
      have HK6 := Lib.hid hK6
      clear hK6 lo5 hi5
      obtain ⟨u6, c6⟩ := cell_of_own P6.out (j * 14 + 6) (by omega)
      have f6 := P6.out.frozenAt (j * 14 + 6)
      go_upto_region 17 with fail
      have P7 := Lib.hid (P6.out.stored (j * 14 + 6) (.int .i64 K6)).1
      have G7 := Lib.hid (grownBy_trans G6.out (grown_setCell1 _ g (j * 14 + 6) (.int .i64 K6)))
      clear c6 f6 P6 G6
      generalize w6.setCell ⟨g, j * 14 + 6, none⟩ (.int .i64 K6) = w7 at P7 G7 ⊢
      go_upto_region 18 with fail
      generalize hK7 : K6 + 1 = K7
      have lo7 : 0 ≤ K7 := by omega
      have hi7 : K7 ≤ 4000000000 + 7 := by omega
      have HK7 := Lib.hid hK7
      clear hK7 lo6 hi6
      obtain ⟨u7, c7⟩ := cell_of_own P7.out (j * 14 + 7) (by omega)
      have f7 := P7.out.frozenAt (j * 14 + 7)
      go_upto_region 19 with fail
      have P8 := Lib.hid (P7.out.stored (j * 14 + 7) (.int .i64 K7)).1
      have G8 := Lib.hid (grownBy_trans G7.out (grown_setCell1 _ g (j * 14 + 7) (.int .i64 K7)))
      clear c7 f7 P7 G7
      generalize w7.setCell ⟨g, j * 14 + 7, none⟩ (.int .i64 K7) = w8 at P8 G8 ⊢
      go_upto_region 20 with fail
      generalize hK8 : K7 + 1 = K8
      have lo8 : 0 ≤ K8 := by omega
      have hi8 : K8 ≤ 4000000000 + 8 := by omega
      have HK8 := Lib.hid hK8
      clear hK8 lo7 hi7
      obtain ⟨u8, c8⟩ := cell_of_own P8.out (j * 14 + 8) (by omega)
      have f8 := P8.out.frozenAt (j * 14 + 8)
      go_upto_region 21 with fail
      have P9 := Lib.hid (P8.out.stored (j * 14 + 8) (.int .i64 K8)).1
      have G9 := Lib.hid (grownBy_trans G8.out (grown_setCell1 _ g (j * 14 + 8) (.int .i64 K8)))
      clear c8 f8 P8 G8
      generalize w8.setCell ⟨g, j * 14 + 8, none⟩ (.int .i64 K8) = w9 at P9 G9 ⊢
      go_upto_region 22 with fail
      generalize hK9 : K8 + 1 = K9
      have lo9 : 0 ≤ K9 := by omega
      have hi9 : K9 ≤ 4000000000 + 9 := by omega
      have HK9 := Lib.hid hK9
      clear hK9 lo8 hi8
      obtain ⟨u9, c9⟩ := cell_of_own P9.out (j * 14 + 9) (by omega)
      have f9 := P9.out.frozenAt (j * 14 + 9)
      go_upto_region 23 with fail
      have P10 := Lib.hid (P9.out.stored (j * 14 + 9) (.int .i64 K9)).1
      have G10 := Lib.hid (grownBy_trans G9.out (grown_setCell1 _ g (j * 14 + 9) (.int .i64 K9)))
      clear c9 f9 P9 G9
      generalize w9.setCell ⟨g, j * 14 + 9, none⟩ (.int .i64 K9) = w10 at P10 G10 ⊢
      go_upto_region 24 with fail
      generalize hK10 : K9 + 1 = K10
      have lo10 : 0 ≤ K10 := by omega
      have hi10 : K10 ≤ 4000000000 + 10 := by omega
      have HK10 := Lib.hid hK10
      clear hK10 lo9 hi9
      obtain ⟨u10, c10⟩ := cell_of_own P10.out (j * 14 + 10) (by omega)
      have f10 := P10.out.frozenAt (j * 14 + 10)
      go_upto_region 25 with fail
      have P11 := Lib.hid (P10.out.stored (j * 14 + 10) (.int .i64 K10)).1
      have G11 := Lib.hid (grownBy_trans G10.out (grown_setCell1 _ g (j * 14 + 10) (.int .i64 K10)))
      clear c10 f10 P10 G10
      generalize w10.setCell ⟨g, j * 14 + 10, none⟩ (.int .i64 K10) = w11 at P11 G11 ⊢
      go_upto_region 26 with fail
      generalize hK11 : K10 + 1 = K11
      have lo11 : 0 ≤ K11 := by omega
      have hi11 : K11 ≤ 4000000000 + 11 := by omega
      have HK11 := Lib.hid hK11
      clear hK11 lo10 hi10
      obtain ⟨u11, c11⟩ := cell_of_own P11.out (j * 14 + 11) (by omega)
      have f11 := P11.out.frozenAt (j * 14 + 11)
      go_upto_region 27 with fail
      have P12 := Lib.hid (P11.out.stored (j * 14 + 11) (.int .i64 K11)).1
      have G12 := Lib.hid (grownBy_trans G11.out (grown_setCell1 _ g (j * 14 + 11) (.int .i64 K11)))
      clear c11 f11 P11 G11
      generalize w11.setCell ⟨g, j * 14 + 11, none⟩ (.int .i64 K11) = w12 at P12 G12 ⊢
      go_upto_region 28 with fail
      generalize hK12 : K11 + 1 = K12
      have lo12 : 0 ≤ K12 := by omega
      have hi12 : K12 ≤ 4000000000 + 12 := by omega
      have HK12 := Lib.hid hK12
      clear hK12 lo11 hi11
      obtain ⟨u12, c12⟩ := cell_of_own P12.out (j * 14 + 12) (by omega)
      have f12 := P12.out.frozenAt (j * 14 + 12)
      go_upto_region 29 with fail
      have P13 := Lib.hid (P12.out.stored (j * 14 + 12) (.int .i64 K12)).1
      have G13 := Lib.hid (grownBy_trans G12.out (grown_setCell1 _ g (j * 14 + 12) (.int .i64 K12)))
      clear c12 f12 P12 G12
      generalize w12.setCell ⟨g, j * 14 + 12, none⟩ (.int .i64 K12) = w13 at P13 G13 ⊢
      go_upto_region 30 with fail
      generalize hK13 : K12 + 1 = K13
      have lo13 : 0 ≤ K13 := by omega
      have hi13 : K13 ≤ 4000000000 + 13 := by omega
      have HK13 := Lib.hid hK13
      clear hK13 lo12 hi12
      obtain ⟨u13, c13⟩ := cell_of_own P13.out (j * 14 + 13) (by omega)
      have f13 := P13.out.frozenAt (j * 14 + 13)
      go_upto_region 31 with fail
      have P14 := Lib.hid (P13.out.stored (j * 14 + 13) (.int .i64 K13)).1
      have G14 := Lib.hid (grownBy_trans G13.out (grown_setCell1 _ g (j * 14 + 13) (.int .i64 K13)))
      clear c13 f13 P13 G13
      generalize w13.setCell ⟨g, j * 14 + 13, none⟩ (.int .i64 K13) = w14 at P14 G14 ⊢
      go_wp2
      go_roundw
      case rel =>
        have R := P14.out
        have E := HK.out
        have e1 := HK1.out
        have e2 := HK2.out
        have e3 := HK3.out
        have e4 := HK4.out
        have e5 := HK5.out
        have e6 := HK6.out
        have e7 := HK7.out
        have e8 := HK8.out
        have e9 := HK9.out
        have e10 := HK10.out
        have e11 := HK11.out
        have e12 := HK12.out
        have e13 := HK13.out
        refine ⟨j + 1, by omega, by go_num, ret_eq (by omega), Lib.hid ?_, G14⟩
        subst e1
        subst e2
        subst e3
        subst e4
        subst e5
        subst e6
        subst e7
        subst e8
        subst e9
        subst e10
        subst e11
        subst e12
        subst e13
        subst E
        rw [HX.out] at R
        refine mark_next HL.out rfl hlt ?_
        exact R
      case measure => simp [intOf]; omega
    · obtain rfl : j = n := by omega
      go_wp2
      go_ret
      have R := P0.out
      rw [List.drop_eq_nil_of_le (by rw [HL.out]; exact Nat.le_refl _), List.append_nil] at R
      exact ⟨rfl, R, G0.out⟩

set_option maxHeartbeats 400000 in
theorem markFlowKeyS_any {base n c : Nat} {A : Option Addr} {xs : List Value} (k0 : Int) (w : World) (hown : w.ownsRow base 33 14 (.slice A n c) n xs) (h0 : 0 ≤ k0) (h1 : k0 ≤ 1000000000) (hn : n ≤ 1048576) :
    Calls Try.prog 38 #[.slice A n c, .int .i64 k0] w fun e w' => e = .returned (.int .i64 (k0 + n * 14)) ∧ w'.ownsRow base 33 14 (.slice A n c) n (marksN Fk.kinds n k0) ∧ w.grownBy w' (Value.slice A n c).ownBlock := by
  rcases hown.2 with ⟨hv, hz⟩ | ⟨g, cap, cur, hv, _⟩
  · injection hv with hA hn0 hc0
    subst hA hc0 hz
    exact (markFlowKeyS_0 none 0 k0 w).mono fun _ _ ⟨he, hw⟩ => ⟨he.trans (by simp), hw ▸ ⟨rfl, .inl ⟨rfl, rfl⟩⟩, hw ▸ grown_refl _ _⟩
  · injection hv with hA hn0 hc0
    subst hA hc0
    exact markFlowKeyS_C k0 w hown h0 h1 hn

set_option maxHeartbeats 2000000 in
theorem heldFlowKeyS_C (A : Option Addr) (n c : Nat) (k0 : Int) (w : World) (hr : RV w w.heap.size A (marksN Fk.kinds n k0)) (h0 : 0 ≤ k0) (h1 : k0 ≤ 1000000000) (hn : n ≤ 1048576) :
    Calls Try.prog 39 #[.slice A n c, .int .i64 k0] w fun e w' => e = .returned (.int .i64 (k0 + n * 14)) ∧ w = w' := by
  have HR := Lib.hid hr
  clear hr
  go_enter Try.func39, Try.ntmps39
  go_wp2
  go_loop [1, 5] (fun q i => ∃ j : Nat, j ≤ n ∧ i = .int .i64 j ∧ q = .int .i64 (k0 + j * 14)) (fun _ i => n - (intOf i).toNat)
  case atStart => exact ⟨0, Nat.zero_le _, rfl, by go_num⟩
  case round =>
    obtain ⟨j, hj, rfl, rfl⟩ := hrel
    by_cases hlt : j < n
    · obtain ⟨g, o, rfl, hg, hc⟩ := HR.out.marks (by rw [Fk.kinds_length]; omega) hlt
      rw [Fk.kinds_length] at hc
      obtain ⟨K0, hK⟩ : ∃ K : Int, K = k0 + j * 14 := ⟨_, rfl⟩
      rw [show k0 + (j : Int) * ((14 : Nat) : Int) = K0 from hK.symm] at hc
      rw [← hK]
      have HK := Lib.hid hK
      have lo0 : 0 ≤ K0 := by omega
      have hi0 : K0 ≤ 4000000000 := by omega
      clear hK hg
      have c0 : w.cell? ⟨g, o + j * 14, none⟩ = some (.int .i64 K0) := hc 0 _ rfl
      have c1 : w.cell? ⟨g, o + j * 14 + 1, none⟩ = some (.int .i64 (K0 + 1)) := hc 1 _ rfl
      have c2 : w.cell? ⟨g, o + j * 14 + 2, none⟩ = some (.int .i64 (K0 + 1 + 1)) := hc 2 _ rfl
      have c3 : w.cell? ⟨g, o + j * 14 + 3, none⟩ = some (.int .i64 (K0 + 1 + 1 + 1)) := hc 3 _ rfl
      have c4 : w.cell? ⟨g, o + j * 14 + 4, none⟩ = some (.int .i64 (K0 + 1 + 1 + 1 + 1)) := hc 4 _ rfl
      have c5 : w.cell? ⟨g, o + j * 14 + 5, none⟩ = some (.int .i64 (K0 + 1 + 1 + 1 + 1 + 1)) := hc 5 _ rfl
      have c6 : w.cell? ⟨g, o + j * 14 + 6, none⟩ = some (.int .i64 (K0 + 1 + 1 + 1 + 1 + 1 + 1)) := hc 6 _ rfl
      have c7 : w.cell? ⟨g, o + j * 14 + 7, none⟩ = some (.int .i64 (K0 + 1 + 1 + 1 + 1 + 1 + 1 + 1)) := hc 7 _ rfl
      have c8 : w.cell? ⟨g, o + j * 14 + 8, none⟩ = some (.int .i64 (K0 + 1 + 1 + 1 + 1 + 1 + 1 + 1 + 1)) := hc 8 _ rfl
      have c9 : w.cell? ⟨g, o + j * 14 + 9, none⟩ = some (.int .i64 (K0 + 1 + 1 + 1 + 1 + 1 + 1 + 1 + 1 + 1)) := hc 9 _ rfl
      have c10 : w.cell? ⟨g, o + j * 14 + 10, none⟩ = some (.int .i64 (K0 + 1 + 1 + 1 + 1 + 1 + 1 + 1 + 1 + 1 + 1)) := hc 10 _ rfl
      have c11 : w.cell? ⟨g, o + j * 14 + 11, none⟩ = some (.int .i64 (K0 + 1 + 1 + 1 + 1 + 1 + 1 + 1 + 1 + 1 + 1 + 1)) := hc 11 _ rfl
      have c12 : w.cell? ⟨g, o + j * 14 + 12, none⟩ = some (.int .i64 (K0 + 1 + 1 + 1 + 1 + 1 + 1 + 1 + 1 + 1 + 1 + 1 + 1)) := hc 12 _ rfl
      have c13 : w.cell? ⟨g, o + j * 14 + 13, none⟩ = some (.int .i64 (K0 + 1 + 1 + 1 + 1 + 1 + 1 + 1 + 1 + 1 + 1 + 1 + 1 + 1)) := hc 13 _ rfl
      clear hc
      go_upto_region 7 with fail
      generalize hK1 : K0 + 1 = K1 at *
      have lo1 : 0 ≤ K1 := by omega
      have hi1 : K1 ≤ 4000000000 + 1 := by omega
      have HK1 := Lib.hid hK1
      clear hK1 lo0 hi0 c0
      go_upto_region 10 with fail
      generalize hK2 : K1 + 1 = K2 at *
      have lo2 : 0 ≤ K2 := by omega
      have hi2 : K2 ≤ 4000000000 + 2 := by omega
      have HK2 := Lib.hid hK2
      clear hK2 lo1 hi1 c1
      go_upto_region 13 with fail
      generalize hK3 : K2 + 1 = K3 at *
      have lo3 : 0 ≤ K3 := by omega
      have hi3 : K3 ≤ 4000000000 + 3 := by omega
      have HK3 := Lib.hid hK3
      clear hK3 lo2 hi2 c2
      go_upto_region 16 with fail
      generalize hK4 : K3 + 1 = K4 at *
      have lo4 : 0 ≤ K4 := by omega
      have hi4 : K4 ≤ 4000000000 + 4 := by omega
      have HK4 := Lib.hid hK4
      clear hK4 lo3 hi3 c3
      go_upto_region 19 with fail
      generalize hK5 : K4 + 1 = K5 at *
      have lo5 : 0 ≤ K5 := by omega
      have hi5 : K5 ≤ 4000000000 + 5 := by omega
      have HK5 := Lib.hid hK5
      clear hK5 lo4 hi4 c4
      go_upto_region 22 with fail
      generalize hK6 : K5 + 1 = K6 at *
      have lo6 : 0 ≤ K6 := by omega
      have hi6 : K6 ≤ 4000000000 + 6 := by omega
      have HK6 := Lib.hid hK6
      clear hK6 lo5 hi5 c5
      go_upto_region 25 with fail
      generalize hK7 : K6 + 1 = K7 at *
      have lo7 : 0 ≤ K7 := by omega
      have hi7 : K7 ≤ 4000000000 + 7 := by omega
      have HK7 := Lib.hid hK7
      clear hK7 lo6 hi6 c6
      go_upto_region 28 with fail
      generalize hK8 : K7 + 1 = K8 at *
      have lo8 : 0 ≤ K8 := by omega
      have hi8 : K8 ≤ 4000000000 + 8 := by omega
      have HK8 := Lib.hid hK8
      clear hK8 lo7 hi7 c7
      go_upto_region 31 with fail
      generalize hK9 : K8 + 1 = K9 at *
      have lo9 : 0 ≤ K9 := by omega
      have hi9 : K9 ≤ 4000000000 + 9 := by omega
      have HK9 := Lib.hid hK9
      clear hK9 lo8 hi8 c8
      go_upto_region 34 with fail
      generalize hK10 : K9 + 1 = K10 at *
      have lo10 : 0 ≤ K10 := by omega
      have hi10 : K10 ≤ 4000000000 + 10 := by omega
      have HK10 := Lib.hid hK10
      clear hK10 lo9 hi9 c9
      go_upto_region 37 with fail
      generalize hK11 : K10 + 1 = K11 at *
      have lo11 : 0 ≤ K11 := by omega
      have hi11 : K11 ≤ 4000000000 + 11 := by omega
      have HK11 := Lib.hid hK11
      clear hK11 lo10 hi10 c10
      go_upto_region 40 with fail
      generalize hK12 : K11 + 1 = K12 at *
      have lo12 : 0 ≤ K12 := by omega
      have hi12 : K12 ≤ 4000000000 + 12 := by omega
      have HK12 := Lib.hid hK12
      clear hK12 lo11 hi11 c11
      go_upto_region 43 with fail
      generalize hK13 : K12 + 1 = K13 at *
      have lo13 : 0 ≤ K13 := by omega
      have hi13 : K13 ≤ 4000000000 + 13 := by omega
      have HK13 := Lib.hid hK13
      clear hK13 lo12 hi12 c12
      go_wp2
      go_round
      case rel =>
        have E := HK.out
        have e1 := HK1.out
        have e2 := HK2.out
        have e3 := HK3.out
        have e4 := HK4.out
        have e5 := HK5.out
        have e6 := HK6.out
        have e7 := HK7.out
        have e8 := HK8.out
        have e9 := HK9.out
        have e10 := HK10.out
        have e11 := HK11.out
        have e12 := HK12.out
        have e13 := HK13.out
        exact ⟨j + 1, by omega, by go_num, ret_eq (by omega)⟩
      case measure => simp [intOf]; omega
    · obtain rfl : j = n := by omega
      go_wp2
      go_ret
      exact ⟨rfl, rfl⟩
end Go.Proofs.Ytmfkpiclpkeemaa
