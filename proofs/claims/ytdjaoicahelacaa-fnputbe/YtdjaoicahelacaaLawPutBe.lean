/-
  For every code of bytes the law FnPutBe returns true: Be32 of the four bytes of the number drawn is that number modulo 4294967296, and Be16 its halves. No condition; the argument reads afterwards as before.
-/
import Derived.Test.YtdjaoicahelacaaDraw1
import Derived.Test.YtdjaoicahelacaaPut
import Derived.Test.YtdjaoicahelacaaBe
import Derived.Test.YtdjaoicahelacaaInBytes
import Derived.Test.YtdjaoicahelacaaRows
import Derived.ShutString
namespace Go.Proofs.Ytdjaoicahelacaa
open Go.RowKit

theorem put32_len (n : Int) : (put32 n).length = 4 := rfl
theorem be_put32 (n : Int) : ((be (((put32 n).drop 0).take 4) : Nat) : Int) = n % 4294967296 := by
  have h : be (((put32 n).drop 0).take 4) = 256 * (256 * (256 * (byteOf (n / 16777216)).toNat + (byteOf (n / 65536)).toNat) + (byteOf (n / 256)).toNat) + (byteOf n).toNat := by simp [be, put32]
  have a := byteOf_val (n / 16777216)
  have b := byteOf_val (n / 65536)
  have c := byteOf_val (n / 256)
  have d := byteOf_val n
  rw [h]
  omega
theorem be_put32_hi (n : Int) : ((be (((put32 n).drop 0).take 2) : Nat) : Int) = n % 4294967296 / 65536 := by
  have h : be (((put32 n).drop 0).take 2) = 256 * (byteOf (n / 16777216)).toNat + (byteOf (n / 65536)).toNat := by simp [be, put32]
  have a := byteOf_val (n / 16777216)
  have b := byteOf_val (n / 65536)
  rw [h]
  omega
theorem be_put32_lo (n : Int) : ((be (((put32 n).drop 2).take 2) : Nat) : Int) = n % 4294967296 % 65536 := by
  have h : be (((put32 n).drop 2).take 2) = 256 * (byteOf (n / 256)).toNat + (byteOf n).toNat := by simp [be, put32]
  have a := byteOf_val (n / 256)
  have b := byteOf_val n
  rw [h]
  omega

set_option maxRecDepth 100000 in
set_option maxHeartbeats 1000000 in
theorem lawPutBe {w : World} (A : Option Addr) (n c : Nat) (bs : List UInt8) (hin : In w A n c bs) :
    Calls Try.prog 4 #[.slice A n c] w fun e w' => e = .returned (.bool true) ∧ Below w.heap.size w w' := by
  obtain ⟨rfl, hcap, hbig, hrb⟩ := hin
  unfold maxLen at hbig
  by_cases hn : bs.length ≤ 1048576
  · have hnI : ¬ (1048576 : Int) < (bs.length : Int) := by omega
    go_enter Try.func4, Try.ntmps4
    go_wp2_with fail
    refine (bigC A bs.length c w).mono ?_
    rintro e w0 ⟨rfl, rfl⟩
    go_wp2_with fail
    refine (drawPut32 A c bs w hrb hn).mono ?_
    rintro e w1 ⟨x, rfl, hx, b1⟩
    go_wp2_with fail
    refine (implPut32 x w1).mono ?_
    rintro e w2 ⟨rfl, o2, b2⟩
    obtain ⟨t1, t2, t3, t4⟩ := tmod_fix x 4294967296 (by omega)
    obtain ⟨L, hL⟩ : ∃ L : Int, L = x % 4294967296 := ⟨_, rfl⟩
    have hL0 : 0 ≤ L := by omega
    have hL1 : L < 4294967296 := by omega
    have c1 := implBe32 (some ⟨w1.heap.size, 0, none⟩) 4 4 (put32 x) 0 w2 (RB.of_own o2) rfl (by omega) (Nat.le_refl _) (by omega)
    have c2 := implBe16 (some ⟨w1.heap.size, 0, none⟩) 4 4 (put32 x) 0 w2 (RB.of_own o2) rfl (by omega) (Nat.le_refl _) (by omega)
    have c3 := implBe16 (some ⟨w1.heap.size, 0, none⟩) 4 4 (put32 x) 2 w2 (RB.of_own o2) rfl (by omega) (Nat.le_refl _) (by omega)
    rw [be_put32, ← hL] at c1
    rw [be_put32_hi, ← hL] at c2
    rw [be_put32_lo, ← hL] at c3
    have C1 := Lib.hid c1
    have C2 := Lib.hid c2
    have C3 := Lib.hid c3
    by_cases hneg : x.tmod 4294967296 < 0
    · have t4 := t4 hneg
      rw [← hL] at t4
      obtain ⟨M, hM⟩ : ∃ M : Int, x.tmod 4294967296 = M := ⟨_, rfl⟩
      rw [hM] at t1 t2 t4 hneg
      clear t3 hL c1 c2 c3 o2
      go_wp2_with fail
      refine C1.out.mono ?_
      rintro e w3 ⟨rfl, rfl⟩
      go_wp2_with fail
      refine C2.out.mono ?_
      rintro e w3 ⟨rfl, rfl⟩
      go_wp2_with fail
      refine C3.out.mono ?_
      rintro e w3 ⟨rfl, rfl⟩
      go_wp2
      go_ret
      exact ⟨rfl, bthen b1 b2⟩
    · have t3 := t3 (by omega)
      rw [← hL] at t3
      clear t4 hL c1 c2 c3 o2 t1 t2
      go_wp2_with fail
      refine C1.out.mono ?_
      rintro e w3 ⟨rfl, rfl⟩
      go_wp2_with fail
      refine C2.out.mono ?_
      rintro e w3 ⟨rfl, rfl⟩
      go_wp2_with fail
      refine C3.out.mono ?_
      rintro e w3 ⟨rfl, rfl⟩
      go_wp2
      go_ret
      exact ⟨rfl, bthen b1 b2⟩
  · have hnI : (1048576 : Int) < (bs.length : Int) := by omega
    go_enter Try.func4, Try.ntmps4
    go_wp2_with fail
    refine (bigC A bs.length c w).mono ?_
    rintro e w0 ⟨rfl, rfl⟩
    go_wp2
    go_ret
    exact ⟨rfl, Below.refl _ _⟩

namespace fnPutBe
open Go.ChangeShapes Go.WideShapes Go.ChangeAt Go.RowKit
open Go.ChangeMaps (open_string shut_string)
theorem own : ownKnob Try.prog.godebug = none := by kernel_rfl
theorem laidOut : laidOutB Try.prog = true := by kernel_rfl

set_option maxRecDepth 100000 in
theorem lifted (os : Os) (started : os.Started) (H : Type) (enc : TypeId × Value → H) :
    ReturnsInHanded {} Try.checked os 4 .any (Rows.fnPutBeSpec.pre6 enc Try.prog Try.f4 Rows.fnPutBeRow.domain false) (Rows.fnPutBeSpec.post enc Try.prog Try.f4 false true false false) := by
  refine returnsInHanded_of_change (C := Try.checked) own started (by kernel_rfl) Try.func4
    (ChangeSpec.witness6 (enc := enc) (C := Try.checked) false ⟨#[], #[.slice none 0 0], []⟩ 8 (by kernel_rfl) (by kernel_rfl) (by kernel_rfl) (by kernel_rfl)) ?_
  intro W base args ds gs before hval0 hW _ _
  have hval : ∀ (j : Nat) t v, Try.f4.params[j]? = some t → args[j]? = some v → Value.okWide Try.prog W .any base t v := hval0
  have hW' := hW
  obtain ⟨p, q, hA0, hV, rfl, _, _⟩ := hW
  have hA : DataW.TrodAll enc Try.prog W 0 (fun _ => true) true Try.f4.params.toList args.toList ds p := hA0
  rw [Try.params4] at hA hval
  obtain ⟨v0, vs0, d0, ds0, p0, q0, hargs, rfl, rfl, h0, r0⟩ := trodAll_cons hA
  obtain ⟨rfl, rfl, rfl⟩ := trodAll_nil r0
  obtain rfl : args = #[v0] := by cases args; simp_all
  obtain ⟨rfl, rfl⟩ := trodVars_none hV
  obtain ⟨a0, n0, c0, rfl⟩ := okWide_slice Try.underlying22 (hval 0 22 v0 rfl rfl)
  have k0 := h0
  have lt0 : ∀ x ∈ p0, x.block < W.heap.size := by obtain ⟨m, hm⟩ := k0; exact DataW.trod_lt m _ _ _ hm
  obtain ⟨b0, w0⟩ := bytes_in h0
  clear hA0 hval0
  refine (lawPutBe a0 n0 c0 b0 w0).mono fun e W' ⟨he, bel⟩ => ?_
  subst he
  exact ⟨_, rfl, _, _, _, [], _, [], hW', trodAll_mk1 (shut_bool Try.underlying4 _), (trodAll_cons_mk (Below.trod laidOut (by kernel_rfl) (of_decide_eq_true (by kernel_rfl)) k0 bel lt0) trodAll_mk0), rfl, bel.frame _, fun h => by cases h⟩

theorem proved : Rows.FnPutBeSaid :=
  OpenClaim.holds_of_wide 4 Try.f4 rfl rfl rfl rfl rfl rfl rfl ⟨rfl, rfl, rfl, rfl, rfl⟩ rfl rfl rfl rfl rfl (by kernel_rfl) Try.func4 (by kernel_rfl)
    (of_decide_eq_true (by kernel_rfl)) (by unfold Func.isWrapper; rw [if_neg (of_decide_eq_false (by kernel_rfl))]; exact ⟨rfl, rfl⟩)
    (fun os started H enc _ => lifted os started H enc)
#print axioms proved
end fnPutBe
end Go.Proofs.Ytdjaoicahelacaa
