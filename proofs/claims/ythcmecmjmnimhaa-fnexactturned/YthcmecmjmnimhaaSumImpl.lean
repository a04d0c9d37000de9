/-
  What the program's functions of chapter 2 answer.
-/
import Derived.Test.YthcmecmjmnimhaaBe
import Derived.Test.YthcmecmjmnimhaaInts
import Derived.Test.YthcmecmjmnimhaaSum
import Derived.StillTailTactics
namespace Go.Proofs.Ythcmecmjmnimhaa
set_option maxRecDepth 100000
open Go.RowKit

set_option maxHeartbeats 400000 in
theorem compC (n : Int) (w : World) : Calls Try.prog 66 #[.int .i64 n] w fun e w' => e = .returned (.int .i64 (comp n)) ∧ w = w' := by
  cases h : isWord n with
  | true =>
    have H := Lib.hid (comp_yes h)
    have hr := isWord_iff.1 h
    obtain ⟨r1, r2⟩ := hr
    clear h
    go_enter Try.func66, Try.ntmps66
    go_wp2_with (go_at_call 42; refine (within_yes _ _ _ _ (by omega) (by omega)).mono ?_; rintro e w' ⟨rfl, rfl⟩)
    go_ret
    exact ⟨ret_int H.out.symm, rfl⟩
  | false =>
    have H := Lib.hid (comp_no h)
    have hr := Lib.hid (isWord_not.1 h)
    clear h
    go_enter Try.func66, Try.ntmps66
    go_wp2_with (go_at_call 42; refine (within_no _ _ _ _ hr.out).mono ?_; rintro e w' ⟨rfl, rfl⟩)
    go_ret
    exact ⟨ret_int H.out.symm, rfl⟩

set_option maxHeartbeats 1000000 in
theorem foldedC (A : Option Addr) (n c : Nat) (ws : List Int) (w : World) (hr : RV w w.heap.size A (intsOf ws)) (hl : ws.length = n) (hn : n ≤ 1048576) :
    Calls Try.prog 67 #[.slice A n c] w fun e w' => e = .returned (.int .i64 (folded ws)) ∧ w = w' := by
  subst hl
  go_enter Try.func67, Try.ntmps67
  go_wp2
  go_loop [3, 8] (fun s i => ∃ k : Nat, k ≤ ws.length ∧ i = .int .i64 k ∧ (ws.take k).all isWord = true ∧ s = .int .i64 (sums 0 (ws.take k))) (fun _ i => ws.length - (intOf i).toNat)
  case atStart => exact ⟨0, Nat.zero_le _, rfl, rfl, rfl⟩
  case round =>
    obtain ⟨k, hk, rfl, hall, rfl⟩ := hrel
    by_cases hlt : k < ws.length
    · obtain ⟨g, o, rfl, hg, hc⟩ := hr.int hlt
      obtain ⟨s0, s1⟩ := isWord_iff.1 (sums_word _ 0 (by decide) hall)
      cases hx : isWord ws[k] with
      | true =>
        obtain ⟨x0, x1⟩ := isWord_iff.1 hx
        have Hall := Lib.hid (all_take_snoc ws k hlt hall hx)
        have Hs := Lib.hid (show sums 0 (ws.take (k + 1)) = sadd (sums 0 (ws.take k)) ws[k] by rw [take_snoc ws k hlt, sums_snoc])
        obtain ⟨s, hs⟩ : ∃ s, s = sums 0 (ws.take k) := ⟨_, rfl⟩
        obtain ⟨x, hx'⟩ : ∃ x, x = ws[k] := ⟨_, rfl⟩
        rw [← hs, ← hx'] at Hs
        rw [← hs] at s0 s1
        rw [← hx'] at x0 x1 hc
        rw [← hs]
        clear hs hx hx' hall hr
        by_cases hbig : 65535 < s + x
        · have e := Lib.hid (show sadd s x = s + x - 65535 by rw [sadd, if_pos hbig])
          go_wp2_with (go_at_call 42; refine (within_yes _ _ _ _ (by omega) (by omega)).mono ?_; rintro e w' ⟨rfl, rfl⟩)
          go_round
          case rel => exact ⟨k + 1, by omega, by go_num, Hall.out, by rw [Hs.out, e.out]⟩
          case measure => simp [intOf]; omega
        · have e := Lib.hid (show sadd s x = s + x by rw [sadd, if_neg hbig])
          go_wp2_with (go_at_call 42; refine (within_yes _ _ _ _ (by omega) (by omega)).mono ?_; rintro e w' ⟨rfl, rfl⟩)
          go_round
          case rel => exact ⟨k + 1, by omega, by go_num, Hall.out, by rw [Hs.out, e.out]⟩
          case measure => simp [intOf]; omega
      | false =>
        have H := Lib.hid (folded_no k hlt hx)
        have hno := Lib.hid (isWord_not.1 hx)
        clear hall hx hr
        go_wp2_with (go_at_call 42; refine (within_no _ _ _ _ hno.out).mono ?_; rintro e w' ⟨rfl, rfl⟩)
        go_ret
        exact ⟨ret_int H.out.symm, rfl⟩
    · obtain rfl : k = ws.length := by omega
      rw [List.take_length] at hall
      have H := Lib.hid (folded_yes hall)
      rw [List.take_length]
      clear hall
      go_wp2
      go_ret
      exact ⟨ret_int H.out.symm, rfl⟩

/-- The row of words as it is being filled. -/
def wRow (bs : List UInt8) (k : Nat) : List Int := wordsL (bs.take k) ++ List.replicate ((bs.length + 1) / 2 - (k + 1) / 2) 0
theorem wRow_zero (bs : List UInt8) : wRow bs 0 = List.replicate ((bs.length + 1) / 2) 0 := by simp [wRow, wordsL]
theorem wRow_full (bs : List UInt8) : wRow bs bs.length = wordsL bs := by simp [wRow]
theorem wRow_length (bs : List UInt8) (k : Nat) (h : k ≤ bs.length) : (wRow bs k).length = (bs.length + 1) / 2 := by
  rw [wRow, List.length_append, wordsL_length, List.length_replicate, List.length_take, Nat.min_eq_left h]
  omega
theorem wRow_even (bs : List UInt8) (k : Nat) (h : k < bs.length) (he : k % 2 = 0) :
    (intsOf (wRow bs k)).set (k / 2) (.int .i64 ((bs[k].toNat : Int) * 256)) = intsOf (wRow bs (k + 1)) := by
  rw [wRow, wRow, show (bs.length + 1) / 2 - (k + 1) / 2 = ((bs.length + 1) / 2 - (k + 1 + 1) / 2) + 1 by omega, List.replicate_succ, int_fill _ _ _ _ (k / 2) (by rw [wordsL_length, List.length_take]; omega), wordsL_even bs k h he, Int.mul_comm]
theorem wRow_get (bs : List UInt8) (k : Nat) (h : k < bs.length) (he : k % 2 = 1) : (wRow bs k)[k / 2]? = some (256 * (bs[k - 1].toNat : Int)) := by
  have e := wordsL_even bs (k - 1) (by omega) (by omega)
  rw [show k - 1 + 1 = k by omega] at e
  rw [wRow, e, List.append_assoc, List.getElem?_append_right (by rw [wordsL_length, List.length_take]; omega), wordsL_length, List.length_take, show k / 2 - (min (k - 1) bs.length + 1) / 2 = 0 by omega]
  rfl
theorem wRow_odd (bs : List UInt8) (k : Nat) (h : k < bs.length) (he : k % 2 = 1) :
    (intsOf (wRow bs k)).set (k / 2) (.int .i64 ((bs[k - 1].toNat : Int) * 256 + bs[k].toNat)) = intsOf (wRow bs (k + 1)) := by
  have e := wordsL_even bs (k - 1) (by omega) (by omega)
  have e2 := wordsL_odd bs (k - 1) (by omega) (by omega)
  have e3 : bs[k - 1 + 1]'(by omega) = bs[k] := by congr 1; omega
  rw [show k - 1 + 1 = k by omega] at e
  rw [e3, show k - 1 + 2 = k + 1 by omega] at e2
  rw [wRow, wRow, e, e2, show (k + 1 + 1) / 2 = (k + 1) / 2 by omega, List.append_assoc, List.singleton_append, int_fill _ _ _ _ (k / 2) (by rw [wordsL_length, List.length_take]; omega), Int.mul_comm]

set_option maxRecDepth 100000 in
set_option maxHeartbeats 1000000 in
theorem wordsOfC (A : Option Addr) (c : Nat) (bs : List UInt8) (w : World) (hr : RB w w.heap.size A bs) (hn : bs.length ≤ 1048576) :
    Calls Try.prog 104 #[.slice A bs.length c] w fun e w' => e = .returned (.slice (some ⟨w.heap.size, 0, none⟩) ((bs.length + 1) / 2) ((bs.length + 1) / 2)) ∧
      w'.ownsRow w.heap.size 3 1 (.slice (some ⟨w.heap.size, 0, none⟩) ((bs.length + 1) / 2) ((bs.length + 1) / 2)) ((bs.length + 1) / 2) (intsOf (wordsL bs)) ∧ Below w.heap.size w w' := by
  obtain ⟨i0, hi0, hz0, hz1, hz2⟩ := info_parts info_int
  go_enter Try.func104, Try.ntmps104
  go_wp2_with (at_make; refine wpList_make_full _ rfl _ _ 51 rfl w.heap.size 3 i0 (.int .i64 0) 1 Try.underlying51 hi0 hz0 hz1 _ _ _ _ ((bs.length + 1) / 2) rfl rfl (by omega) (by omega) (by rw [hz2]; omega) (by unfold maxLen; omega) (Nat.le_refl _) ?_; intro w1 hown hgrow)
  have hown0 : w1.ownsRow w.heap.size 3 1 (.slice (some ⟨w.heap.size, 0, none⟩) ((bs.length + 1) / 2) ((bs.length + 1) / 2)) ((bs.length + 1) / 2) (intsOf (wRow bs 0)) := by
    have e : (madeCells (Value.int IntKind.i64 0).cells ((bs.length + 1) / 2 * 1)).toList = intsOf (wRow bs 0) := by
      rw [wRow_zero]
      have := toList_madeCells_one (.int .i64 0) ((bs.length + 1) / 2)
      simpa [Value.cells, intsOf] using this
    rw [← e]; exact hown
  have hb1 : Below w.heap.size w w1 := (Below.refl _ _).grown hgrow (Nat.le_refl _) (by simp)
  clear hown hgrow
  go_loopw [13] (fun i wr => ∃ k : Nat, k ≤ bs.length ∧ i = .int .i64 k ∧ wr.ownsRow w.heap.size 3 1 (.slice (some ⟨w.heap.size, 0, none⟩) ((bs.length + 1) / 2) ((bs.length + 1) / 2)) ((bs.length + 1) / 2) (intsOf (wRow bs k)) ∧ Below w.heap.size w wr) (fun i _ => bs.length - (intOf i).toNat)
  case atStart => exact ⟨0, Nat.zero_le _, rfl, hown0, hb1⟩
  case round =>
    obtain ⟨k, hk, rfl, ho, hb⟩ := hrel
    clear hown0 hb1
    by_cases hlt : k < bs.length
    · obtain ⟨g, o, rfl, hg, hc0⟩ := hr.at_ hlt
      have hc : wr.cell? ⟨g, o + k, none⟩ = some (.int .u8 (bs[k].toNat : Int)) := (hb.cell (p := ⟨g, o + k, none⟩) hg).trans hc0
      have hb8 : bs[k].toNat < 256 := UInt8.toNat_lt _
      have hi2 : k / 2 < (bs.length + 1) / 2 := by omega
      have hfz := ho.frozenAt (k / 2)
      by_cases he : k % 2 = 0
      · have het : ((k : Int) % 2 == 0) = true := by simp; omega
        obtain ⟨u, hu⟩ : ∃ u, wr.cell? ⟨w.heap.size, k / 2, none⟩ = some u := by
          rw [ho.cellAt (k / 2) (by omega)]
          exact ⟨_, List.getElem?_eq_getElem (by rw [intsOf_length, wRow_length bs k hk]; omega)⟩
        have R := ho.stored (k / 2) (.int .i64 ((bs[k].toNat : Int) * 256))
        rw [wRow_even bs k hlt he] at R
        have R1 := Lib.hid R.1
        have R2 := Lib.hid (hb.setCell (p := ⟨w.heap.size, k / 2, none⟩) (Nat.le_refl _) (.int .i64 ((bs[k].toNat : Int) * 256)))
        clear R ho hc0 hr hb he
        go_wp2
        go_roundw
        case rel => exact ⟨k + 1, by omega, by go_num, R1.out, R2.out⟩
        case measure => simp [intOf]; omega
      · have hef : ((k : Int) % 2 == 0) = false := by simp; omega
        have hb7 : (bs[k - 1]'(by omega)).toNat < 256 := UInt8.toNat_lt _
        have hcell : wr.cell? ⟨w.heap.size, k / 2, none⟩ = some (.int .i64 ((bs[k - 1].toNat : Int) * 256)) := by
          rw [ho.cellAt (k / 2) (by omega), intsOf_get _ _ _ (wRow_get bs k hlt (by omega)), Int.mul_comm]
        have hor := or_byte (bs[k - 1]'(by omega)).toNat bs[k].toNat (by omega) hb8
        have R := ho.stored (k / 2) (.int .i64 ((bs[k - 1].toNat : Int) * 256 + bs[k].toNat))
        rw [wRow_odd bs k hlt (by omega)] at R
        have R1 := Lib.hid R.1
        have R2 := Lib.hid (hb.setCell (p := ⟨w.heap.size, k / 2, none⟩) (Nat.le_refl _) (.int .i64 ((bs[k - 1].toNat : Int) * 256 + bs[k].toNat)))
        clear R ho hc0 hr hb he
        go_wp2
        go_roundw
        case rel => exact ⟨k + 1, by omega, by go_num, R1.out, R2.out⟩
        case measure => simp [intOf]; omega
    · obtain rfl : k = bs.length := by omega
      rw [wRow_full] at ho
      have Ho := Lib.hid ho
      clear ho
      go_wp2
      go_ret
      exact ⟨rfl, Ho.out, hb⟩

set_option maxHeartbeats 400000 in
theorem implOnes (A : Option Addr) (n c : Nat) (bs : List UInt8) (w : World) (hr : RB w w.heap.size A bs) (hl : bs.length = n) (hn : n ≤ 1048576) :
    Calls Try.prog 69 #[.slice A n c] w fun e w' => e = .returned (.int .i64 (onesSum bs)) ∧ Below w.heap.size w w' := by
  subst hl
  by_cases h : 2000 < bs.length
  · have H := Lib.hid (show onesSum bs = -1 by rw [onesSum, if_pos h])
    go_enter Try.func69, Try.ntmps69
    go_wp2
    go_ret
    exact ⟨ret_int H.out.symm, Below.refl _ _⟩
  · have H := Lib.hid (show onesSum bs = folded (wordsL bs) by rw [onesSum, if_neg h, folded_yes (wordsL_word bs)])
    have hl := wordsL_length bs
    go_enter Try.func69, Try.ntmps69
    go_wp2_with fail
    refine (wordsOfC A c bs w hr hn).mono ?_
    rintro e w1 ⟨rfl, o1, b1⟩
    go_wp2_with fail
    refine (foldedC _ _ _ (wordsL bs) w1 (RV.of_own o1) hl (by omega)).mono ?_
    rintro e w2 ⟨rfl, rfl⟩
    go_wp2
    go_ret
    exact ⟨ret_int H.out.symm, b1⟩







end Go.Proofs.Ythcmecmjmnimhaa
