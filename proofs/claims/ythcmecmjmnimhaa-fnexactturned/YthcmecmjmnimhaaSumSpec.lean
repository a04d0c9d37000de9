/-
  What the model's functions of chapter 2 answer.
-/
import Derived.Test.YthcmecmjmnimhaaBytes
import Derived.Test.YthcmecmjmnimhaaInts
import Derived.Test.YthcmecmjmnimhaaSum
namespace Go.Proofs.Ythcmecmjmnimhaa
set_option maxRecDepth 100000
open Go.RowKit

theorem isWord_le {n : Int} (h : isWord n = true) : decide (n ≤ 65535) = true := by
  have := isWord_iff.1 h
  simp; omega

set_option maxHeartbeats 400000 in
theorem wordC (n : Int) (w : World) : Calls Try.prog 100 #[.int .i64 n] w fun e w' => e = .returned (.bool (isWord n)) ∧ w = w' := by
  by_cases h0 : 0 ≤ n
  · by_cases h1 : n ≤ 65535
    · have H := Lib.hid (isWord_iff.2 ⟨h0, h1⟩)
      go_enter Try.func100, Try.ntmps100
      go_wp2
      go_ret
      exact ⟨ret_bool H.out.symm, rfl⟩
    · have H := Lib.hid (isWord_not.2 (show n < 0 ∨ 65535 < n by omega))
      go_enter Try.func100, Try.ntmps100
      go_wp2
      go_ret
      exact ⟨ret_bool H.out.symm, rfl⟩
  · have H := Lib.hid (isWord_not.2 (show n < 0 ∨ 65535 < n by omega))
    go_enter Try.func100, Try.ntmps100
    go_wp2
    go_ret
    exact ⟨ret_bool H.out.symm, rfl⟩

theorem folded2 {a b : Int} (ha : isWord a = true) (hb : isWord b = true) : folded [a, b] = sadd a b := by
  rw [folded_yes (by simp [ha, hb]), sums, List.foldl_cons, sadd_zero ha]
  rfl

set_option maxHeartbeats 400000 in
theorem specAdd (a b : Int) (w : World) : Calls Try.prog 62 #[.int .i64 a, .int .i64 b] w fun e w' => e = .returned (.int .i64 (folded [a, b])) ∧ w = w' := by
  cases ha : isWord a with
  | true =>
    cases hb : isWord b with
    | true =>
      obtain ⟨a0, a1⟩ := isWord_iff.1 ha
      obtain ⟨b0, b1⟩ := isWord_iff.1 hb
      by_cases hbig : 65535 < a + b
      · have H := Lib.hid (show folded [a, b] = a + b - 65535 by rw [folded2 ha hb, sadd, if_pos hbig])
        go_enter Try.func62, Try.ntmps62
        go_wp2_with (go_at_call 100; refine (wordC _ _).mono ?_; rintro e w' ⟨rfl, rfl⟩)
        go_ret
        exact ⟨ret_int H.out.symm, rfl⟩
      · have H := Lib.hid (show folded [a, b] = a + b by rw [folded2 ha hb, sadd, if_neg hbig])
        go_enter Try.func62, Try.ntmps62
        go_wp2_with (go_at_call 100; refine (wordC _ _).mono ?_; rintro e w' ⟨rfl, rfl⟩)
        go_ret
        exact ⟨ret_int H.out.symm, rfl⟩
    | false =>
      have H := Lib.hid (show folded [a, b] = -1 from folded_no 1 (by simp) hb)
      go_enter Try.func62, Try.ntmps62
      go_wp2_with (go_at_call 100; refine (wordC _ _).mono ?_; rintro e w' ⟨rfl, rfl⟩)
      go_ret
      exact ⟨ret_int H.out.symm, rfl⟩
  | false =>
    have H := Lib.hid (show folded [a, b] = -1 from folded_no 0 (by simp) ha)
    go_enter Try.func62, Try.ntmps62
    go_wp2_with (go_at_call 100; refine (wordC _ _).mono ?_; rintro e w' ⟨rfl, rfl⟩)
    go_ret
    exact ⟨ret_int H.out.symm, rfl⟩

theorem specAddW (a b : Int) (w : World) (ha : isWord a = true) (hb : isWord b = true) : Calls Try.prog 62 #[.int .i64 a, .int .i64 b] w fun e w' => e = .returned (.int .i64 (sadd a b)) ∧ w = w' := by
  have := specAdd a b w
  rwa [folded2 ha hb] at this

set_option maxRecDepth 100000 in
set_option maxHeartbeats 1000000 in
theorem specOnes (A : Option Addr) (n c : Nat) (bs : List UInt8) (w : World) (hr : RB w w.heap.size A bs) (hl : bs.length = n) (hn : n ≤ 1048576) :
    Calls Try.prog 63 #[.slice A n c] w fun e w' => e = .returned (.int .i64 (onesSum bs)) ∧ w = w' := by
  subst hl
  by_cases h : 2000 < bs.length
  · have H := Lib.hid (show onesSum bs = -1 by rw [onesSum, if_pos h])
    go_enter Try.func63, Try.ntmps63
    go_wp2
    go_ret
    exact ⟨ret_int H.out.symm, rfl⟩
  · have H := Lib.hid (show onesSum bs = sums 0 (wordsL bs) by rw [onesSum, if_neg h])
    go_enter Try.func63, Try.ntmps63
    go_wp2
    go_loop [3, 4] (fun s i => ∃ k : Nat, k ≤ bs.length + 1 ∧ k % 2 = 0 ∧ i = .int .i64 k ∧ s = .int .i64 (sums 0 (wordsL (bs.take k)))) (fun _ i => bs.length + 1 - (intOf i).toNat)
    case atStart => exact ⟨0, Nat.zero_le _, rfl, rfl, rfl⟩
    case round =>
      obtain ⟨k, hk, he, rfl, rfl⟩ := hrel
      have hsw := sums_word _ 0 (by decide) (wordsL_word (bs.take k))
      have He := Lib.hid he
      clear he
      by_cases hlt : k < bs.length
      · obtain ⟨g, o, rfl, hg, hc⟩ := hr.at_ hlt
        have hb8 : bs[k].toNat < 256 := UInt8.toNat_lt _
        have hkI : (k : Int) < (bs.length : Int) := by omega
        by_cases hlt2 : k + 1 < bs.length
        · obtain ⟨g', o', hgo, hg', hc'⟩ := hr.at_ hlt2
          injection hgo with hgo
          injection hgo with h1 h2
          subst h1
          subst h2
          have hb9 : bs[k + 1].toNat < 256 := UInt8.toNat_lt _
          have hkJ : (k : Int) + 1 < (bs.length : Int) := by omega
          have hww : isWord (256 * (bs[k].toNat : Int) + bs[k + 1].toNat) = true := isWord_iff.2 (by omega)
          have E := Lib.hid (show sums 0 (wordsL (bs.take (k + 2))) = sadd (sums 0 (wordsL (bs.take k))) (256 * (bs[k].toNat : Int) + bs[k + 1].toNat) by rw [wordsL_odd bs k hlt2 He.out, sums_snoc])
          have Hsw := Lib.hid hsw
          have Hww := Lib.hid hww
          clear hsw hww hr
          go_wp2_with (go_at_call 62; refine (specAddW _ _ _ Hsw.out Hww.out).mono ?_; rintro e w' ⟨rfl, rfl⟩)
          go_round
          case rel => exact ⟨k + 2, by omega, by have := He.out; omega, by go_num, by rw [E.out]⟩
          case measure => simp [intOf]; omega
        · have hkJ : ¬ (k : Int) + 1 < (bs.length : Int) := by omega
          have hww : isWord (256 * (bs[k].toNat : Int)) = true := isWord_iff.2 (by omega)
          have E := Lib.hid (show sums 0 (wordsL (bs.take (k + 2))) = sadd (sums 0 (wordsL (bs.take k))) (256 * (bs[k].toNat : Int)) by
            rw [show bs.take (k + 2) = bs.take (k + 1) by rw [List.take_of_length_le (show bs.length ≤ k + 2 by omega), List.take_of_length_le (show bs.length ≤ k + 1 by omega)], wordsL_even bs k hlt He.out, sums_snoc])
          have Hsw := Lib.hid hsw
          have Hww := Lib.hid hww
          clear hsw hww hr
          go_wp2_with (go_at_call 62; refine (specAddW _ _ _ Hsw.out Hww.out).mono ?_; rintro e w' ⟨rfl, rfl⟩)
          go_round
          case rel => exact ⟨k + 2, by omega, by have := He.out; omega, by go_num, by rw [E.out]⟩
          case measure => simp [intOf]; omega
      · have e : bs.take k = bs := List.take_of_length_le (by omega)
        rw [e]
        clear hsw hr
        go_wp2
        go_ret
        exact ⟨ret_int H.out.symm, rfl⟩





end Go.Proofs.Ythcmecmjmnimhaa
