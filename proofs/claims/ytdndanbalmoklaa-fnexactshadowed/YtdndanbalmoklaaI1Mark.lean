/-
  The laws' own marks on a list of structs: set, and looked for.
-/
import Derived.Test.YtdndanbalmoklaaFlatLib
import Derived.Deep.Cut
import Derived.IntWalk
namespace Go.Proofs.Ytdndanbalmoklaa
set_option maxRecDepth 100000
open Go.RowKit

def I1.kinds : List Bool := [false]
theorem I1.kinds_length : I1.kinds.length = 1 := rfl

set_option maxHeartbeats 400000 in
theorem markIntS_0 (A : Option Addr) (c : Nat) (k : Int) (w : World) : Calls Try.prog 55 #[.slice A 0 c, .int .i64 k] w fun e w' => e = .returned (.int .i64 k) ∧ w = w' := by
  go_enter Try.func55, Try.ntmps55
  go_wp2
  go_loop [1, 5] (fun q i => q = .int .i64 k ∧ i = .int .i64 (0 : Int)) (fun _ i => 0)
  case atStart => exact ⟨rfl, rfl⟩
  case round =>
    obtain ⟨rfl, rfl⟩ := hrel
    go_wp2
    go_ret
    exact ⟨rfl, rfl⟩

set_option maxHeartbeats 2000000 in
theorem markIntS_C {base g cap n : Nat} {xs : List Value} (k0 : Int) (w : World) (hown : w.ownsRow base 3 1 (.slice (some ⟨g, 0, none⟩) n cap) n xs) (h0 : 0 ≤ k0) (h1 : k0 ≤ 1000000000) (hn : n ≤ 1048576) :
    Calls Try.prog 55 #[.slice (some ⟨g, 0, none⟩) n cap, .int .i64 k0] w fun e w' => e = .returned (.int .i64 (k0 + n * 1)) ∧ w'.ownsRow base 3 1 (.slice (some ⟨g, 0, none⟩) n cap) n (marksN I1.kinds n k0) ∧ w.grownBy w' (some g) := by
  have O0 := Lib.hid hown
  have HL : Hid (xs.length = n * 1) := Lib.hid hown.1
  clear hown
  go_enter Try.func55, Try.ntmps55
  go_wp2
  go_loopw [1, 5] (fun q i wr => ∃ j : Nat, j ≤ n ∧ i = .int .i64 j ∧ q = .int .i64 (k0 + j * 1) ∧ Hid (wr.ownsRow base 3 1 (.slice (some ⟨g, 0, none⟩) n cap) n (marksN I1.kinds j k0 ++ xs.drop (j * 1))) ∧ Hid (w.grownBy wr (some g))) (fun _ i _ => n - (intOf i).toNat)
  case atStart => exact ⟨0, Nat.zero_le _, rfl, by go_num, Lib.hid (by simpa [marksN] using O0.out), Lib.hid (grown_refl _ _)⟩
  case round =>
    obtain ⟨j, hj, rfl, rfl, P0, G0⟩ := hrel
    clear O0
    by_cases hlt : j < n
    · obtain ⟨K0, hK⟩ : ∃ K : Int, K = k0 + j * 1 := ⟨_, rfl⟩
      rw [← hK]
      have HK := Lib.hid hK
      have lo0 : 0 ≤ K0 := by omega
      have hi0 : K0 ≤ 4000000000 := by omega
      clear hK
      obtain ⟨x0, hx⟩ : ∃ l, l = marksN I1.kinds j k0 ++ xs.drop (j * 1) := ⟨_, rfl⟩
      rw [← hx] at P0
      have HX := Lib.hid hx
      clear hx
      obtain ⟨u0, c0⟩ := cell_of_own P0.out (j) (by omega)
      have f0 := P0.out.frozenAt (j)
      go_upto_region 5 with fail
      have P1 := Lib.hid (P0.out.stored (j) (.int .i64 K0)).1
      have G1 := Lib.hid (grownBy_trans G0.out (grown_setCell1 _ g (j) (.int .i64 K0)))
      clear c0 f0 P0 G0
      generalize wr.setCell ⟨g, j, none⟩ (.int .i64 K0) = w1 at P1 G1 ⊢
      go_wp2
      go_roundw
      case rel =>
        have R := P1.out
        have E := HK.out
        refine ⟨j + 1, by omega, by go_num, ret_eq (by omega), Lib.hid ?_, G1⟩
        subst E
        rw [HX.out] at R
        refine mark_next HL.out rfl hlt ?_
        simp only [Nat.mul_one]
        simp only [Nat.mul_one, Int.mul_one] at R
        show World.ownsRow _ _ _ _ _ _ (putL _ _ [.int .i64 (k0 + ↑j * 1)])
        rw [Int.mul_one]
        exact R
      case measure => simp [intOf]; omega
    · obtain rfl : j = n := by omega
      go_wp2
      go_ret
      have R := P0.out
      rw [List.drop_eq_nil_of_le (by rw [HL.out]; exact Nat.le_refl _), List.append_nil] at R
      exact ⟨rfl, R, G0.out⟩

set_option maxHeartbeats 400000 in
theorem markIntS_any {base n c : Nat} {A : Option Addr} {xs : List Value} (k0 : Int) (w : World) (hown : w.ownsRow base 3 1 (.slice A n c) n xs) (h0 : 0 ≤ k0) (h1 : k0 ≤ 1000000000) (hn : n ≤ 1048576) :
    Calls Try.prog 55 #[.slice A n c, .int .i64 k0] w fun e w' => e = .returned (.int .i64 (k0 + n * 1)) ∧ w'.ownsRow base 3 1 (.slice A n c) n (marksN I1.kinds n k0) ∧ w.grownBy w' (Value.slice A n c).ownBlock := by
  rcases hown.2 with ⟨hv, hz⟩ | ⟨g, cap, cur, hv, _⟩
  · injection hv with hA hn0 hc0
    subst hA hc0 hz
    exact (markIntS_0 none 0 k0 w).mono fun _ _ ⟨he, hw⟩ => ⟨he.trans (by simp), hw ▸ ⟨rfl, .inl ⟨rfl, rfl⟩⟩, hw ▸ grown_refl _ _⟩
  · injection hv with hA hn0 hc0
    subst hA hc0
    exact markIntS_C k0 w hown h0 h1 hn

set_option maxHeartbeats 2000000 in
theorem heldIntS_C (A : Option Addr) (n c : Nat) (k0 : Int) (w : World) (hr : RV w w.heap.size A (marksN I1.kinds n k0)) (h0 : 0 ≤ k0) (h1 : k0 ≤ 1000000000) (hn : n ≤ 1048576) :
    Calls Try.prog 56 #[.slice A n c, .int .i64 k0] w fun e w' => e = .returned (.int .i64 (k0 + n * 1)) ∧ w = w' := by
  have HR := Lib.hid hr
  clear hr
  go_enter Try.func56, Try.ntmps56
  go_wp2
  go_loop [1, 5] (fun q i => ∃ j : Nat, j ≤ n ∧ i = .int .i64 j ∧ q = .int .i64 (k0 + j * 1)) (fun _ i => n - (intOf i).toNat)
  case atStart => exact ⟨0, Nat.zero_le _, rfl, by go_num⟩
  case round =>
    obtain ⟨j, hj, rfl, rfl⟩ := hrel
    by_cases hlt : j < n
    · obtain ⟨g, o, rfl, hg, hc⟩ := HR.out.marks (by rw [I1.kinds_length]; omega) hlt
      rw [I1.kinds_length] at hc
      obtain ⟨K0, hK⟩ : ∃ K : Int, K = k0 + j * 1 := ⟨_, rfl⟩
      rw [show k0 + (j : Int) * ((1 : Nat) : Int) = K0 from hK.symm] at hc
      rw [← hK]
      have HK := Lib.hid hK
      have lo0 : 0 ≤ K0 := by omega
      have hi0 : K0 ≤ 4000000000 := by omega
      clear hK hg
      have c0 : w.cell? ⟨g, o + j, none⟩ = some (.int .i64 K0) := by have h := hc 0 (.int .i64 K0) rfl; simpa using h
      clear hc
      go_wp2
      go_round
      case rel =>
        have E := HK.out
        exact ⟨j + 1, by omega, by go_num, ret_eq (by omega)⟩
      case measure => simp [intOf]; omega
    · obtain rfl : j = n := by omega
      go_wp2
      go_ret
      exact ⟨rfl, rfl⟩
end Go.Proofs.Ytdndanbalmoklaa
