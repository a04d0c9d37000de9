/-
  The laws' own marks on a list of structs: set, and looked for.
-/
import Derived.Test.YtdndanbalmoklaaFlatLib
import Derived.Test.YtdndanbalmoklaaRuLib
import Derived.Deep.Cut
import Derived.IntWalk
namespace Go.Proofs.Ytdndanbalmoklaa
set_option maxRecDepth 100000
open Go.RowKit

def Ru.kinds : List Bool := [false, false, false, false, false, false, false, false, false, false, false, false, false, false, false, false, false, false, false, false, false]
theorem Ru.kinds_length : Ru.kinds.length = 21 := rfl

set_option maxHeartbeats 400000 in
theorem markRuleS_0 (A : Option Addr) (c : Nat) (k : Int) (w : World) : Calls Try.prog 54 #[.slice A 0 c, .int .i64 k] w fun e w' => e = .returned (.int .i64 k) ∧ w = w' := by
  go_enter Try.func54, Try.ntmps54
  go_wp2
  go_loop [1, 5] (fun q i => q = .int .i64 k ∧ i = .int .i64 (0 : Int)) (fun _ i => 0)
  case atStart => exact ⟨rfl, rfl⟩
  case round =>
    obtain ⟨rfl, rfl⟩ := hrel
    go_wp2
    go_ret
    exact ⟨rfl, rfl⟩

set_option maxHeartbeats 2000000 in
theorem markRuleS_C {base g cap n : Nat} {xs : List Value} (k0 : Int) (w : World) (hown : w.ownsRow base 53 21 (.slice (some ⟨g, 0, none⟩) n cap) n xs) (h0 : 0 ≤ k0) (h1 : k0 ≤ 1000000000) (hn : n ≤ 1048576) :
    Calls Try.prog 54 #[.slice (some ⟨g, 0, none⟩) n cap, .int .i64 k0] w fun e w' => e = .returned (.int .i64 (k0 + n * 21)) ∧ w'.ownsRow base 53 21 (.slice (some ⟨g, 0, none⟩) n cap) n (marksN Ru.kinds n k0) ∧ w.grownBy w' (some g) := by
  have O0 := Lib.hid hown
  have HL : Hid (xs.length = n * 21) := Lib.hid hown.1
  clear hown
  go_enter Try.func54, Try.ntmps54
  go_wp2
  go_loopw [1, 5] (fun q i wr => ∃ j : Nat, j ≤ n ∧ i = .int .i64 j ∧ q = .int .i64 (k0 + j * 21) ∧ Hid (wr.ownsRow base 53 21 (.slice (some ⟨g, 0, none⟩) n cap) n (marksN Ru.kinds j k0 ++ xs.drop (j * 21))) ∧ Hid (w.grownBy wr (some g))) (fun _ i _ => n - (intOf i).toNat)
  case atStart => exact ⟨0, Nat.zero_le _, rfl, by go_num, Lib.hid (by simpa [marksN] using O0.out), Lib.hid (grown_refl _ _)⟩
  case round =>
    obtain ⟨j, hj, rfl, rfl, P0, G0⟩ := hrel
    clear O0
    by_cases hlt : j < n
    · obtain ⟨K0, hK⟩ : ∃ K : Int, K = k0 + j * 21 := ⟨_, rfl⟩
      rw [← hK]
      have HK := Lib.hid hK
      have lo0 : 0 ≤ K0 := by omega
      have hi0 : K0 ≤ 4000000000 := by omega
      clear hK
      obtain ⟨x0, hx⟩ : ∃ l, l = marksN Ru.kinds j k0 ++ xs.drop (j * 21) := ⟨_, rfl⟩
      rw [← hx] at P0
      have HX := Lib.hid hx
      clear hx
      obtain ⟨u0, c0⟩ := cell_of_own P0.out (j * 21) (by omega)
      have f0 := P0.out.frozenAt (j * 21)
      go_upto_region 5 with fail
      have P1 := Lib.hid (P0.out.stored (j * 21) (.int .i64 K0)).1
      have G1 := Lib.hid (grownBy_trans G0.out (grown_setCell1 _ g (j * 21) (.int .i64 K0)))
      clear c0 f0 P0 G0
      generalize wr.setCell ⟨g, j * 21, none⟩ (.int .i64 K0) = w1 at P1 G1 ⊢
      go_upto_region 6 with fail
      generalize hK1 : K0 + 1 = K1
      have lo1 : 0 ≤ K1 := by omega
      have hi1 : K1 ≤ 4000000000 + 1 := by omega
      have HK1 := Lib.hid hK1
      clear hK1 lo0 hi0
      obtain ⟨u1, c1⟩ := cell_of_own P1.out (j * 21 + 1) (by omega)
      have f1 := P1.out.frozenAt (j * 21 + 1)
      go_upto_region 7 with fail
      have P2 := Lib.hid (P1.out.stored (j * 21 + 1) (.int .i64 K1)).1
      have G2 := Lib.hid (grownBy_trans G1.out (grown_setCell1 _ g (j * 21 + 1) (.int .i64 K1)))
      clear c1 f1 P1 G1
      generalize w1.setCell ⟨g, j * 21 + 1, none⟩ (.int .i64 K1) = w2 at P2 G2 ⊢
      go_upto_region 8 with fail
      generalize hK2 : K1 + 1 = K2
      have lo2 : 0 ≤ K2 := by omega
      have hi2 : K2 ≤ 4000000000 + 2 := by omega
      have HK2 := Lib.hid hK2
      clear hK2 lo1 hi1
      obtain ⟨u2, c2⟩ := cell_of_own P2.out (j * 21 + 2) (by omega)
      have f2 := P2.out.frozenAt (j * 21 + 2)
      go_upto_region 9 with fail
      have P3 := Lib.hid (P2.out.stored (j * 21 + 2) (.int .i64 K2)).1
      have G3 := Lib.hid (grownBy_trans G2.out (grown_setCell1 _ g (j * 21 + 2) (.int .i64 K2)))
      clear c2 f2 P2 G2
      generalize w2.setCell ⟨g, j * 21 + 2, none⟩ (.int .i64 K2) = w3 at P3 G3 ⊢
      go_upto_region 10 with fail
      generalize hK3 : K2 + 1 = K3
      have lo3 : 0 ≤ K3 := by omega
      have hi3 : K3 ≤ 4000000000 + 3 := by omega
      have HK3 := Lib.hid hK3
      clear hK3 lo2 hi2
      obtain ⟨u3, c3⟩ := cell_of_own P3.out (j * 21 + 3) (by omega)
      have f3 := P3.out.frozenAt (j * 21 + 3)
      go_upto_region 11 with fail
      have P4 := Lib.hid (P3.out.stored (j * 21 + 3) (.int .i64 K3)).1
      have G4 := Lib.hid (grownBy_trans G3.out (grown_setCell1 _ g (j * 21 + 3) (.int .i64 K3)))
      clear c3 f3 P3 G3
      generalize w3.setCell ⟨g, j * 21 + 3, none⟩ (.int .i64 K3) = w4 at P4 G4 ⊢
      go_upto_region 12 with fail
      generalize hK4 : K3 + 1 = K4
      have lo4 : 0 ≤ K4 := by omega
      have hi4 : K4 ≤ 4000000000 + 4 := by omega
      have HK4 := Lib.hid hK4
      clear hK4 lo3 hi3
      obtain ⟨u4, c4⟩ := cell_of_own P4.out (j * 21 + 4) (by omega)
      have f4 := P4.out.frozenAt (j * 21 + 4)
      go_upto_region 13 with fail
      have P5 := Lib.hid (P4.out.stored (j * 21 + 4) (.int .i64 K4)).1
      have G5 := Lib.hid (grownBy_trans G4.out (grown_setCell1 _ g (j * 21 + 4) (.int .i64 K4)))
      clear c4 f4 P4 G4
      generalize w4.setCell ⟨g, j * 21 + 4, none⟩ (.int .i64 K4) = w5 at P5 G5 ⊢
      go_upto_region 14 with fail
      generalize hK5 : K4 + 1 = K5
      have lo5 : 0 ≤ K5 := by omega
      have hi5 : K5 ≤ 4000000000 + 5 := by omega
      have HK5 := Lib.hid hK5
      clear hK5 lo4 hi4
      obtain ⟨u5, c5⟩ := cell_of_own P5.out (j * 21 + 5) (by omega)
      have f5 := P5.out.frozenAt (j * 21 + 5)
      go_upto_region 15 with fail
      have P6 := Lib.hid (P5.out.stored (j * 21 + 5) (.int .i64 K5)).1
      have G6 := Lib.hid (grownBy_trans G5.out (grown_setCell1 _ g (j * 21 + 5) (.int .i64 K5)))
      clear c5 f5 P5 G5
      generalize w5.setCell ⟨g, j * 21 + 5, none⟩ (.int .i64 K5) = w6 at P6 G6 ⊢
      go_upto_region 16 with fail
      generalize hK6 : K5 + 1 = K6
      have lo6 : 0 ≤ K6 := by omega
      have hi6 : K6 ≤ 4000000000 + 6 := by omega
      have HK6 := Lib.hid hK6
      clear hK6 lo5 hi5
      obtain ⟨u6, c6⟩ := cell_of_own P6.out (j * 21 + 6) (by omega)
      have f6 := P6.out.frozenAt (j * 21 + 6)
      go_upto_region 17 with fail
      have P7 := Lib.hid (P6.out.stored (j * 21 + 6) (.int .i64 K6)).1
      have G7 := Lib.hid (grownBy_trans G6.out (grown_setCell1 _ g (j * 21 + 6) (.int .i64 K6)))
      clear c6 f6 P6 G6
      generalize w6.setCell ⟨g, j * 21 + 6, none⟩ (.int .i64 K6) = w7 at P7 G7 ⊢
      go_upto_region 18 with fail
      generalize hK7 : K6 + 1 = K7
      have lo7 : 0 ≤ K7 := by omega
      have hi7 : K7 ≤ 4000000000 + 7 := by omega
      have HK7 := Lib.hid hK7
      clear hK7 lo6 hi6
      obtain ⟨u7, c7⟩ := cell_of_own P7.out (j * 21 + 7) (by omega)
      have f7 := P7.out.frozenAt (j * 21 + 7)
      go_upto_region 19 with fail
      have P8 := Lib.hid (P7.out.stored (j * 21 + 7) (.int .i64 K7)).1
      have G8 := Lib.hid (grownBy_trans G7.out (grown_setCell1 _ g (j * 21 + 7) (.int .i64 K7)))
      clear c7 f7 P7 G7
      generalize w7.setCell ⟨g, j * 21 + 7, none⟩ (.int .i64 K7) = w8 at P8 G8 ⊢
      go_upto_region 20 with fail
      generalize hK8 : K7 + 1 = K8
      have lo8 : 0 ≤ K8 := by omega
      have hi8 : K8 ≤ 4000000000 + 8 := by omega
      have HK8 := Lib.hid hK8
      clear hK8 lo7 hi7
      obtain ⟨u8, c8⟩ := cell_of_own P8.out (j * 21 + 8) (by omega)
      have f8 := P8.out.frozenAt (j * 21 + 8)
      go_upto_region 21 with fail
      have P9 := Lib.hid (P8.out.stored (j * 21 + 8) (.int .i64 K8)).1
      have G9 := Lib.hid (grownBy_trans G8.out (grown_setCell1 _ g (j * 21 + 8) (.int .i64 K8)))
      clear c8 f8 P8 G8
      generalize w8.setCell ⟨g, j * 21 + 8, none⟩ (.int .i64 K8) = w9 at P9 G9 ⊢
      go_upto_region 22 with fail
      generalize hK9 : K8 + 1 = K9
      have lo9 : 0 ≤ K9 := by omega
      have hi9 : K9 ≤ 4000000000 + 9 := by omega
      have HK9 := Lib.hid hK9
      clear hK9 lo8 hi8
      obtain ⟨u9, c9⟩ := cell_of_own P9.out (j * 21 + 9) (by omega)
      have f9 := P9.out.frozenAt (j * 21 + 9)
      go_upto_region 23 with fail
      have P10 := Lib.hid (P9.out.stored (j * 21 + 9) (.int .i64 K9)).1
      have G10 := Lib.hid (grownBy_trans G9.out (grown_setCell1 _ g (j * 21 + 9) (.int .i64 K9)))
      clear c9 f9 P9 G9
      generalize w9.setCell ⟨g, j * 21 + 9, none⟩ (.int .i64 K9) = w10 at P10 G10 ⊢
      go_upto_region 24 with fail
      generalize hK10 : K9 + 1 = K10
      have lo10 : 0 ≤ K10 := by omega
      have hi10 : K10 ≤ 4000000000 + 10 := by omega
      have HK10 := Lib.hid hK10
      clear hK10 lo9 hi9
      obtain ⟨u10, c10⟩ := cell_of_own P10.out (j * 21 + 10) (by omega)
      have f10 := P10.out.frozenAt (j * 21 + 10)
      go_upto_region 25 with fail
      have P11 := Lib.hid (P10.out.stored (j * 21 + 10) (.int .i64 K10)).1
      have G11 := Lib.hid (grownBy_trans G10.out (grown_setCell1 _ g (j * 21 + 10) (.int .i64 K10)))
      clear c10 f10 P10 G10
      generalize w10.setCell ⟨g, j * 21 + 10, none⟩ (.int .i64 K10) = w11 at P11 G11 ⊢
      go_upto_region 26 with fail
      generalize hK11 : K10 + 1 = K11
      have lo11 : 0 ≤ K11 := by omega
      have hi11 : K11 ≤ 4000000000 + 11 := by omega
      have HK11 := Lib.hid hK11
      clear hK11 lo10 hi10
      obtain ⟨u11, c11⟩ := cell_of_own P11.out (j * 21 + 11) (by omega)
      have f11 := P11.out.frozenAt (j * 21 + 11)
      go_upto_region 27 with fail
      have P12 := Lib.hid (P11.out.stored (j * 21 + 11) (.int .i64 K11)).1
      have G12 := Lib.hid (grownBy_trans G11.out (grown_setCell1 _ g (j * 21 + 11) (.int .i64 K11)))
      clear c11 f11 P11 G11
      generalize w11.setCell ⟨g, j * 21 + 11, none⟩ (.int .i64 K11) = w12 at P12 G12 ⊢
      go_upto_region 28 with fail
      generalize hK12 : K11 + 1 = K12
      have lo12 : 0 ≤ K12 := by omega
      have hi12 : K12 ≤ 4000000000 + 12 := by omega
      have HK12 := Lib.hid hK12
      clear hK12 lo11 hi11
      obtain ⟨u12, c12⟩ := cell_of_own P12.out (j * 21 + 12) (by omega)
      have f12 := P12.out.frozenAt (j * 21 + 12)
      go_upto_region 29 with fail
      have P13 := Lib.hid (P12.out.stored (j * 21 + 12) (.int .i64 K12)).1
      have G13 := Lib.hid (grownBy_trans G12.out (grown_setCell1 _ g (j * 21 + 12) (.int .i64 K12)))
      clear c12 f12 P12 G12
      generalize w12.setCell ⟨g, j * 21 + 12, none⟩ (.int .i64 K12) = w13 at P13 G13 ⊢
      go_upto_region 30 with fail
      generalize hK13 : K12 + 1 = K13
      have lo13 : 0 ≤ K13 := by omega
      have hi13 : K13 ≤ 4000000000 + 13 := by omega
      have HK13 := Lib.hid hK13
      clear hK13 lo12 hi12
      obtain ⟨u13, c13⟩ := cell_of_own P13.out (j * 21 + 13) (by omega)
      have f13 := P13.out.frozenAt (j * 21 + 13)
      go_upto_region 31 with fail
      have P14 := Lib.hid (P13.out.stored (j * 21 + 13) (.int .i64 K13)).1
      have G14 := Lib.hid (grownBy_trans G13.out (grown_setCell1 _ g (j * 21 + 13) (.int .i64 K13)))
      clear c13 f13 P13 G13
      generalize w13.setCell ⟨g, j * 21 + 13, none⟩ (.int .i64 K13) = w14 at P14 G14 ⊢
      go_upto_region 32 with fail
      generalize hK14 : K13 + 1 = K14
      have lo14 : 0 ≤ K14 := by omega
      have hi14 : K14 ≤ 4000000000 + 14 := by omega
      have HK14 := Lib.hid hK14
      clear hK14 lo13 hi13
      obtain ⟨u14, c14⟩ := cell_of_own P14.out (j * 21 + 14) (by omega)
      have f14 := P14.out.frozenAt (j * 21 + 14)
      go_upto_region 33 with fail
      have P15 := Lib.hid (P14.out.stored (j * 21 + 14) (.int .i64 K14)).1
      have G15 := Lib.hid (grownBy_trans G14.out (grown_setCell1 _ g (j * 21 + 14) (.int .i64 K14)))
      clear c14 f14 P14 G14
      generalize w14.setCell ⟨g, j * 21 + 14, none⟩ (.int .i64 K14) = w15 at P15 G15 ⊢
      go_upto_region 34 with fail
      generalize hK15 : K14 + 1 = K15
      have lo15 : 0 ≤ K15 := by omega
      have hi15 : K15 ≤ 4000000000 + 15 := by omega
      have HK15 := Lib.hid hK15
      clear hK15 lo14 hi14
      obtain ⟨u15, c15⟩ := cell_of_own P15.out (j * 21 + 15) (by omega)
      have f15 := P15.out.frozenAt (j * 21 + 15)
      go_upto_region 35 with fail
      have P16 := Lib.hid (P15.out.stored (j * 21 + 15) (.int .i64 K15)).1
      have G16 := Lib.hid (grownBy_trans G15.out (grown_setCell1 _ g (j * 21 + 15) (.int .i64 K15)))
      clear c15 f15 P15 G15
      generalize w15.setCell ⟨g, j * 21 + 15, none⟩ (.int .i64 K15) = w16 at P16 G16 ⊢
      go_upto_region 36 with fail
      generalize hK16 : K15 + 1 = K16
      have lo16 : 0 ≤ K16 := by omega
      have hi16 : K16 ≤ 4000000000 + 16 := by omega
      have HK16 := Lib.hid hK16
      clear hK16 lo15 hi15
      obtain ⟨u16, c16⟩ := cell_of_own P16.out (j * 21 + 16) (by omega)
      have f16 := P16.out.frozenAt (j * 21 + 16)
      go_upto_region 37 with fail
      have P17 := Lib.hid (P16.out.stored (j * 21 + 16) (.int .i64 K16)).1
      have G17 := Lib.hid (grownBy_trans G16.out (grown_setCell1 _ g (j * 21 + 16) (.int .i64 K16)))
      clear c16 f16 P16 G16
      generalize w16.setCell ⟨g, j * 21 + 16, none⟩ (.int .i64 K16) = w17 at P17 G17 ⊢
      go_upto_region 38 with fail
      generalize hK17 : K16 + 1 = K17
      have lo17 : 0 ≤ K17 := by omega
      have hi17 : K17 ≤ 4000000000 + 17 := by omega
      have HK17 := Lib.hid hK17
      clear hK17 lo16 hi16
      obtain ⟨u17, c17⟩ := cell_of_own P17.out (j * 21 + 17) (by omega)
      have f17 := P17.out.frozenAt (j * 21 + 17)
      go_upto_region 39 with fail
      have P18 := Lib.hid (P17.out.stored (j * 21 + 17) (.int .i64 K17)).1
      have G18 := Lib.hid (grownBy_trans G17.out (grown_setCell1 _ g (j * 21 + 17) (.int .i64 K17)))
      clear c17 f17 P17 G17
      generalize w17.setCell ⟨g, j * 21 + 17, none⟩ (.int .i64 K17) = w18 at P18 G18 ⊢
      go_upto_region 40 with fail
      generalize hK18 : K17 + 1 = K18
      have lo18 : 0 ≤ K18 := by omega
      have hi18 : K18 ≤ 4000000000 + 18 := by omega
      have HK18 := Lib.hid hK18
      clear hK18 lo17 hi17
      obtain ⟨u18, c18⟩ := cell_of_own P18.out (j * 21 + 18) (by omega)
      have f18 := P18.out.frozenAt (j * 21 + 18)
      go_upto_region 41 with fail
      have P19 := Lib.hid (P18.out.stored (j * 21 + 18) (.int .i64 K18)).1
      have G19 := Lib.hid (grownBy_trans G18.out (grown_setCell1 _ g (j * 21 + 18) (.int .i64 K18)))
      clear c18 f18 P18 G18
      generalize w18.setCell ⟨g, j * 21 + 18, none⟩ (.int .i64 K18) = w19 at P19 G19 ⊢
      go_upto_region 42 with fail
      generalize hK19 : K18 + 1 = K19
      have lo19 : 0 ≤ K19 := by omega
      have hi19 : K19 ≤ 4000000000 + 19 := by omega
      have HK19 := Lib.hid hK19
      clear hK19 lo18 hi18
      obtain ⟨u19, c19⟩ := cell_of_own P19.out (j * 21 + 19) (by omega)
      have f19 := P19.out.frozenAt (j * 21 + 19)
      go_upto_region 43 with fail
      have P20 := Lib.hid (P19.out.stored (j * 21 + 19) (.int .i64 K19)).1
      have G20 := Lib.hid (grownBy_trans G19.out (grown_setCell1 _ g (j * 21 + 19) (.int .i64 K19)))
      clear c19 f19 P19 G19
      generalize w19.setCell ⟨g, j * 21 + 19, none⟩ (.int .i64 K19) = w20 at P20 G20 ⊢
      go_upto_region 44 with fail
      generalize hK20 : K19 + 1 = K20
      have lo20 : 0 ≤ K20 := by omega
      have hi20 : K20 ≤ 4000000000 + 20 := by omega
      have HK20 := Lib.hid hK20
      clear hK20 lo19 hi19
      obtain ⟨u20, c20⟩ := cell_of_own P20.out (j * 21 + 20) (by omega)
      have f20 := P20.out.frozenAt (j * 21 + 20)
      go_upto_region 45 with fail
      have P21 := Lib.hid (P20.out.stored (j * 21 + 20) (.int .i64 K20)).1
      have G21 := Lib.hid (grownBy_trans G20.out (grown_setCell1 _ g (j * 21 + 20) (.int .i64 K20)))
      clear c20 f20 P20 G20
      generalize w20.setCell ⟨g, j * 21 + 20, none⟩ (.int .i64 K20) = w21 at P21 G21 ⊢
      go_wp2
      go_roundw
      case rel =>
        have R := P21.out
        have E := HK.out
        have e1 := HK1.out
        have e2 := HK2.out
        have e3 := HK3.out
        have e4 := HK4.out
        have e5 := HK5.out
        have e6 := HK6.out
        have e7 := HK7.out
        have e8 := HK8.out
        have e9 := HK9.out
        have e10 := HK10.out
        have e11 := HK11.out
        have e12 := HK12.out
        have e13 := HK13.out
        have e14 := HK14.out
        have e15 := HK15.out
        have e16 := HK16.out
        have e17 := HK17.out
        have e18 := HK18.out
        have e19 := HK19.out
        have e20 := HK20.out
        refine ⟨j + 1, by omega, by go_num, ret_eq (by omega), Lib.hid ?_, G21⟩
        subst e1
        subst e2
        subst e3
        subst e4
        subst e5
        subst e6
        subst e7
        subst e8
        subst e9
        subst e10
        subst e11
        subst e12
        subst e13
        subst e14
        subst e15
        subst e16
        subst e17
        subst e18
        subst e19
        subst e20
        subst E
        rw [HX.out] at R
        refine mark_next HL.out rfl hlt ?_
        exact R
      case measure => simp [intOf]; omega
    · obtain rfl : j = n := by omega
      go_wp2
      go_ret
      have R := P0.out
      rw [List.drop_eq_nil_of_le (by rw [HL.out]; exact Nat.le_refl _), List.append_nil] at R
      exact ⟨rfl, R, G0.out⟩

set_option maxHeartbeats 2000000 in
theorem heldRuleS_C (A : Option Addr) (n c : Nat) (k0 : Int) (w : World) (hr : RV w w.heap.size A (marksN Ru.kinds n k0)) (h0 : 0 ≤ k0) (h1 : k0 ≤ 1000000000) (hn : n ≤ 1048576) :
    Calls Try.prog 58 #[.slice A n c, .int .i64 k0] w fun e w' => e = .returned (.int .i64 (k0 + n * 21)) ∧ w = w' := by
  have HR := Lib.hid hr
  clear hr
  go_enter Try.func58, Try.ntmps58
  go_wp2
  go_loop [1, 5] (fun q i => ∃ j : Nat, j ≤ n ∧ i = .int .i64 j ∧ q = .int .i64 (k0 + j * 21)) (fun _ i => n - (intOf i).toNat)
  case atStart => exact ⟨0, Nat.zero_le _, rfl, by go_num⟩
  case round =>
    obtain ⟨j, hj, rfl, rfl⟩ := hrel
    by_cases hlt : j < n
    · obtain ⟨g, o, rfl, hg, hc⟩ := HR.out.marks (by rw [Ru.kinds_length]; omega) hlt
      rw [Ru.kinds_length] at hc
      obtain ⟨K0, hK⟩ : ∃ K : Int, K = k0 + j * 21 := ⟨_, rfl⟩
      rw [show k0 + (j : Int) * ((21 : Nat) : Int) = K0 from hK.symm] at hc
      rw [← hK]
      have HK := Lib.hid hK
      have lo0 : 0 ≤ K0 := by omega
      have hi0 : K0 ≤ 4000000000 := by omega
      clear hK hg
      have c0 : w.cell? ⟨g, o + j * 21, none⟩ = some (.int .i64 K0) := hc 0 _ rfl
      have c1 : w.cell? ⟨g, o + j * 21 + 1, none⟩ = some (.int .i64 (K0 + 1)) := hc 1 _ rfl
      have c2 : w.cell? ⟨g, o + j * 21 + 2, none⟩ = some (.int .i64 (K0 + 1 + 1)) := hc 2 _ rfl
      have c3 : w.cell? ⟨g, o + j * 21 + 3, none⟩ = some (.int .i64 (K0 + 1 + 1 + 1)) := hc 3 _ rfl
      have c4 : w.cell? ⟨g, o + j * 21 + 4, none⟩ = some (.int .i64 (K0 + 1 + 1 + 1 + 1)) := hc 4 _ rfl
      have c5 : w.cell? ⟨g, o + j * 21 + 5, none⟩ = some (.int .i64 (K0 + 1 + 1 + 1 + 1 + 1)) := hc 5 _ rfl
      have c6 : w.cell? ⟨g, o + j * 21 + 6, none⟩ = some (.int .i64 (K0 + 1 + 1 + 1 + 1 + 1 + 1)) := hc 6 _ rfl
      have c7 : w.cell? ⟨g, o + j * 21 + 7, none⟩ = some (.int .i64 (K0 + 1 + 1 + 1 + 1 + 1 + 1 + 1)) := hc 7 _ rfl
      have c8 : w.cell? ⟨g, o + j * 21 + 8, none⟩ = some (.int .i64 (K0 + 1 + 1 + 1 + 1 + 1 + 1 + 1 + 1)) := hc 8 _ rfl
      have c9 : w.cell? ⟨g, o + j * 21 + 9, none⟩ = some (.int .i64 (K0 + 1 + 1 + 1 + 1 + 1 + 1 + 1 + 1 + 1)) := hc 9 _ rfl
      have c10 : w.cell? ⟨g, o + j * 21 + 10, none⟩ = some (.int .i64 (K0 + 1 + 1 + 1 + 1 + 1 + 1 + 1 + 1 + 1 + 1)) := hc 10 _ rfl
      have c11 : w.cell? ⟨g, o + j * 21 + 11, none⟩ = some (.int .i64 (K0 + 1 + 1 + 1 + 1 + 1 + 1 + 1 + 1 + 1 + 1 + 1)) := hc 11 _ rfl
      have c12 : w.cell? ⟨g, o + j * 21 + 12, none⟩ = some (.int .i64 (K0 + 1 + 1 + 1 + 1 + 1 + 1 + 1 + 1 + 1 + 1 + 1 + 1)) := hc 12 _ rfl
      have c13 : w.cell? ⟨g, o + j * 21 + 13, none⟩ = some (.int .i64 (K0 + 1 + 1 + 1 + 1 + 1 + 1 + 1 + 1 + 1 + 1 + 1 + 1 + 1)) := hc 13 _ rfl
      have c14 : w.cell? ⟨g, o + j * 21 + 14, none⟩ = some (.int .i64 (K0 + 1 + 1 + 1 + 1 + 1 + 1 + 1 + 1 + 1 + 1 + 1 + 1 + 1 + 1)) := hc 14 _ rfl
      have c15 : w.cell? ⟨g, o + j * 21 + 15, none⟩ = some (.int .i64 (K0 + 1 + 1 + 1 + 1 + 1 + 1 + 1 + 1 + 1 + 1 + 1 + 1 + 1 + 1 + 1)) := hc 15 _ rfl
      have c16 : w.cell? ⟨g, o + j * 21 + 16, none⟩ = some (.int .i64 (K0 + 1 + 1 + 1 + 1 + 1 + 1 + 1 + 1 + 1 + 1 + 1 + 1 + 1 + 1 + 1 + 1)) := hc 16 _ rfl
      have c17 : w.cell? ⟨g, o + j * 21 + 17, none⟩ = some (.int .i64 (K0 + 1 + 1 + 1 + 1 + 1 + 1 + 1 + 1 + 1 + 1 + 1 + 1 + 1 + 1 + 1 + 1 + 1)) := hc 17 _ rfl
      have c18 : w.cell? ⟨g, o + j * 21 + 18, none⟩ = some (.int .i64 (K0 + 1 + 1 + 1 + 1 + 1 + 1 + 1 + 1 + 1 + 1 + 1 + 1 + 1 + 1 + 1 + 1 + 1 + 1)) := hc 18 _ rfl
      have c19 : w.cell? ⟨g, o + j * 21 + 19, none⟩ = some (.int .i64 (K0 + 1 + 1 + 1 + 1 + 1 + 1 + 1 + 1 + 1 + 1 + 1 + 1 + 1 + 1 + 1 + 1 + 1 + 1 + 1)) := hc 19 _ rfl
      have c20 : w.cell? ⟨g, o + j * 21 + 20, none⟩ = some (.int .i64 (K0 + 1 + 1 + 1 + 1 + 1 + 1 + 1 + 1 + 1 + 1 + 1 + 1 + 1 + 1 + 1 + 1 + 1 + 1 + 1 + 1)) := hc 20 _ rfl
      clear hc
      go_upto_region 7 with fail
      generalize hK1 : K0 + 1 = K1 at *
      have lo1 : 0 ≤ K1 := by omega
      have hi1 : K1 ≤ 4000000000 + 1 := by omega
      have HK1 := Lib.hid hK1
      clear hK1 lo0 hi0 c0
      go_upto_region 10 with fail
      generalize hK2 : K1 + 1 = K2 at *
      have lo2 : 0 ≤ K2 := by omega
      have hi2 : K2 ≤ 4000000000 + 2 := by omega
      have HK2 := Lib.hid hK2
      clear hK2 lo1 hi1 c1
      go_upto_region 13 with fail
      generalize hK3 : K2 + 1 = K3 at *
      have lo3 : 0 ≤ K3 := by omega
      have hi3 : K3 ≤ 4000000000 + 3 := by omega
      have HK3 := Lib.hid hK3
      clear hK3 lo2 hi2 c2
      go_upto_region 16 with fail
      generalize hK4 : K3 + 1 = K4 at *
      have lo4 : 0 ≤ K4 := by omega
      have hi4 : K4 ≤ 4000000000 + 4 := by omega
      have HK4 := Lib.hid hK4
      clear hK4 lo3 hi3 c3
      go_upto_region 19 with fail
      generalize hK5 : K4 + 1 = K5 at *
      have lo5 : 0 ≤ K5 := by omega
      have hi5 : K5 ≤ 4000000000 + 5 := by omega
      have HK5 := Lib.hid hK5
      clear hK5 lo4 hi4 c4
      go_upto_region 22 with fail
      generalize hK6 : K5 + 1 = K6 at *
      have lo6 : 0 ≤ K6 := by omega
      have hi6 : K6 ≤ 4000000000 + 6 := by omega
      have HK6 := Lib.hid hK6
      clear hK6 lo5 hi5 c5
      go_upto_region 25 with fail
      generalize hK7 : K6 + 1 = K7 at *
      have lo7 : 0 ≤ K7 := by omega
      have hi7 : K7 ≤ 4000000000 + 7 := by omega
      have HK7 := Lib.hid hK7
      clear hK7 lo6 hi6 c6
      go_upto_region 28 with fail
      generalize hK8 : K7 + 1 = K8 at *
      have lo8 : 0 ≤ K8 := by omega
      have hi8 : K8 ≤ 4000000000 + 8 := by omega
      have HK8 := Lib.hid hK8
      clear hK8 lo7 hi7 c7
      go_upto_region 31 with fail
      generalize hK9 : K8 + 1 = K9 at *
      have lo9 : 0 ≤ K9 := by omega
      have hi9 : K9 ≤ 4000000000 + 9 := by omega
      have HK9 := Lib.hid hK9
      clear hK9 lo8 hi8 c8
      go_upto_region 34 with fail
      generalize hK10 : K9 + 1 = K10 at *
      have lo10 : 0 ≤ K10 := by omega
      have hi10 : K10 ≤ 4000000000 + 10 := by omega
      have HK10 := Lib.hid hK10
      clear hK10 lo9 hi9 c9
      go_upto_region 37 with fail
      generalize hK11 : K10 + 1 = K11 at *
      have lo11 : 0 ≤ K11 := by omega
      have hi11 : K11 ≤ 4000000000 + 11 := by omega
      have HK11 := Lib.hid hK11
      clear hK11 lo10 hi10 c10
      go_upto_region 40 with fail
      generalize hK12 : K11 + 1 = K12 at *
      have lo12 : 0 ≤ K12 := by omega
      have hi12 : K12 ≤ 4000000000 + 12 := by omega
      have HK12 := Lib.hid hK12
      clear hK12 lo11 hi11 c11
      go_upto_region 43 with fail
      generalize hK13 : K12 + 1 = K13 at *
      have lo13 : 0 ≤ K13 := by omega
      have hi13 : K13 ≤ 4000000000 + 13 := by omega
      have HK13 := Lib.hid hK13
      clear hK13 lo12 hi12 c12
      go_upto_region 46 with fail
      generalize hK14 : K13 + 1 = K14 at *
      have lo14 : 0 ≤ K14 := by omega
      have hi14 : K14 ≤ 4000000000 + 14 := by omega
      have HK14 := Lib.hid hK14
      clear hK14 lo13 hi13 c13
      go_upto_region 49 with fail
      generalize hK15 : K14 + 1 = K15 at *
      have lo15 : 0 ≤ K15 := by omega
      have hi15 : K15 ≤ 4000000000 + 15 := by omega
      have HK15 := Lib.hid hK15
      clear hK15 lo14 hi14 c14
      go_upto_region 52 with fail
      generalize hK16 : K15 + 1 = K16 at *
      have lo16 : 0 ≤ K16 := by omega
      have hi16 : K16 ≤ 4000000000 + 16 := by omega
      have HK16 := Lib.hid hK16
      clear hK16 lo15 hi15 c15
      go_upto_region 55 with fail
      generalize hK17 : K16 + 1 = K17 at *
      have lo17 : 0 ≤ K17 := by omega
      have hi17 : K17 ≤ 4000000000 + 17 := by omega
      have HK17 := Lib.hid hK17
      clear hK17 lo16 hi16 c16
      go_upto_region 58 with fail
      generalize hK18 : K17 + 1 = K18 at *
      have lo18 : 0 ≤ K18 := by omega
      have hi18 : K18 ≤ 4000000000 + 18 := by omega
      have HK18 := Lib.hid hK18
      clear hK18 lo17 hi17 c17
      go_upto_region 61 with fail
      generalize hK19 : K18 + 1 = K19 at *
      have lo19 : 0 ≤ K19 := by omega
      have hi19 : K19 ≤ 4000000000 + 19 := by omega
      have HK19 := Lib.hid hK19
      clear hK19 lo18 hi18 c18
      go_upto_region 64 with fail
      generalize hK20 : K19 + 1 = K20 at *
      have lo20 : 0 ≤ K20 := by omega
      have hi20 : K20 ≤ 4000000000 + 20 := by omega
      have HK20 := Lib.hid hK20
      clear hK20 lo19 hi19 c19
      go_wp2
      go_round
      case rel =>
        have E := HK.out
        have e1 := HK1.out
        have e2 := HK2.out
        have e3 := HK3.out
        have e4 := HK4.out
        have e5 := HK5.out
        have e6 := HK6.out
        have e7 := HK7.out
        have e8 := HK8.out
        have e9 := HK9.out
        have e10 := HK10.out
        have e11 := HK11.out
        have e12 := HK12.out
        have e13 := HK13.out
        have e14 := HK14.out
        have e15 := HK15.out
        have e16 := HK16.out
        have e17 := HK17.out
        have e18 := HK18.out
        have e19 := HK19.out
        have e20 := HK20.out
        exact ⟨j + 1, by omega, by go_num, ret_eq (by omega)⟩
      case measure => simp [intOf]; omega
    · obtain rfl : j = n := by omega
      go_wp2
      go_ret
      exact ⟨rfl, rfl⟩
end Go.Proofs.Ytdndanbalmoklaa
