/-
  A slice that reads as a list of cells, whatever they are; 'append' onto a row of the call's own, from whatever source; rows of integers. What the laws' own helpers on slices of integers do: a copy, a comparison; a slice of integers that came in. What the model's functions of chapter 2 answer. What the program's functions of chapter 2 answer. The model's look at a range, with its answer written out. Pairs of addresses and the sum of the pseudo header, in the program and in the model. The sum of the pseudo header, in the program and in the model. Calls as single operations of a region: Put16 and Put32. The head of an IPv4 packet, in the program. Single operations of a region that the formats' bytes need, and whole loads and stores of the formats. Ethernet frames as four integers and a body. Plain: nothing here speaks of the program. The program's reader over bytes: the next number, what is left, a copy of the next bytes.
-/
import Derived.Test.YthogonpjkngpjaaRa01
import Derived.Deep.QuietTactic
import Derived.BigQuiet
import Derived.ProofKit
import Derived.OpenShut
import Derived.StillTailTactics
import Derived.Test.YthogonpjkngpjaaRa04
import Derived.Test.YthogonpjkngpjaaRa03
import Derived.Deep.Cut
import Derived.Test.YthogonpjkngpjaaRa02
import Derived.Lib.SliceRun
namespace Go.Proofs.Ythogonpjkngpjaa
set_option maxRecDepth 100000
open Go.RowKit

/-- The slice that begins at A reads as the cells vs, and lies below block number B. -/
def RV (w : World) (B : Nat) (A : Option Addr) (vs : List Value) : Prop :=
  0 < vs.length → ∃ g o, A = some ⟨g, o, none⟩ ∧ g < B ∧ ∀ j v, vs[j]? = some v → w.cell? ⟨g, o + j, none⟩ = some v

section
variable {w w' : World} {B B' : Nat} {A : Option Addr} {vs : List Value}

theorem RV.below (h : RV w B A vs) (hb : Below B w w') : RV w' B A vs := by
  intro hp
  obtain ⟨g, o, e, hg, hc⟩ := h hp
  exact ⟨g, o, e, hg, fun j u hu => (hb.cell (p := ⟨g, o + j, none⟩) hg).trans (hc j u hu)⟩

theorem RV.more (h : RV w B A vs) (hB : B ≤ B') : RV w B' A vs := by
  intro hp
  obtain ⟨g, o, e, hg, hc⟩ := h hp
  exact ⟨g, o, e, by omega, hc⟩

theorem RV.on (h : RV w w.heap.size A vs) (hb : Below w.heap.size w w') : RV w' w'.heap.size A vs := (h.below hb).more hb.size

theorem RV.nil_ (w : World) (B : Nat) (A : Option Addr) : RV w B A [] := fun h => absurd h (by simp)

theorem RV.of_own {base size : Nat} {e : TypeId} {n c : Nat} (h : w.ownsRow base e size (.slice A n c) n vs) : RV w w.heap.size A vs := by
  intro hp
  have hl := h.1
  rcases h.2 with ⟨h1, h2⟩ | ⟨g, cap, cur, hv, _, hg, _⟩
  · rw [h2, Nat.zero_mul] at hl
    omega
  · injection hv with hA hn hc
    subst hA
    subst hc
    refine ⟨g, 0, rfl, (Array.getElem?_eq_some_iff.1 hg).1, fun j u hu => ?_⟩
    have hj : j < vs.length := by
      rcases Nat.lt_or_ge j vs.length with h | h
      · exact h
      · rw [List.getElem?_eq_none h] at hu; cases hu
    rw [Nat.zero_add, h.cellAt j (by omega)]
    exact hu

theorem RV.at_ (h : RV w B A vs) {k : Nat} (hk : k < vs.length) : ∃ g o, A = some ⟨g, o, none⟩ ∧ g < B ∧ w.cell? ⟨g, o + k, none⟩ = some vs[k] := by
  obtain ⟨g, o, e, hg, hc⟩ := h (by omega)
  exact ⟨g, o, e, hg, hc k _ (List.getElem?_eq_getElem hk)⟩

/-- A new row reads as its cells. -/
theorem RV.new (w : World) (e : TypeId) (vs : List Value) : RV (w.alloc (.cells vs.toArray e)) (w.heap.size + 1) (some ⟨w.heap.size, 0, none⟩) vs := by
  intro hp
  refine ⟨w.heap.size, 0, rfl, by omega, fun j u hu => ?_⟩
  rw [cell_of_row _ w.heap.size (0 + j) _ e (0, 0) (heap_alloc_new w _)]
  simpa using hu
end

/-- The cells of a list of integers. -/
def intsOf (xs : List Int) : List Value := xs.map fun n => .int .i64 n

theorem intsOf_length (xs : List Int) : (intsOf xs).length = xs.length := by simp [intsOf]
theorem intsOf_get (xs : List Int) (j : Nat) (u : Int) (h : xs[j]? = some u) : (intsOf xs)[j]? = some (.int .i64 u) := by simp [intsOf, h]
theorem RV.int {w : World} {B : Nat} {A : Option Addr} {xs : List Int} (h : RV w B A (intsOf xs)) {k : Nat} (hk : k < xs.length) : ∃ g o, A = some ⟨g, o, none⟩ ∧ g < B ∧ w.cell? ⟨g, o + k, none⟩ = some (.int .i64 xs[k]) := by
  obtain ⟨g, o, e, hg, hc⟩ := h (by rw [intsOf_length]; omega)
  exact ⟨g, o, e, hg, hc k _ (intsOf_get _ _ _ (List.getElem?_eq_getElem hk))⟩

theorem info_int : (Try.prog.info? 3).map (fun i => (i.zero, i.size, i.bytes)) = some (some (.int .i64 0), 1, 8) := by kernel_rfl

end Go.Proofs.Ythogonpjkngpjaa

namespace Go.Proofs.Ythogonpjkngpjaa
set_option maxRecDepth 100000
open Go.RowKit

theorem int_fill (pre tail : List Int) (x b : Int) (k : Nat) (hk : pre.length = k) : (intsOf (pre ++ x :: tail)).set k (.int .i64 b) = intsOf ((pre ++ [b]) ++ tail) := by
  have h := set_mid (intsOf pre) (.int .i64 x) (.int .i64 b) (intsOf tail) k (by rw [intsOf_length]; exact hk)
  simpa [intsOf] using h

/-- A slice of integers that came in: what the walk is told of it. -/
structure InI (w : World) (A : Option Addr) (n c : Nat) (xs : List Int) : Prop where
  len : xs.length = n
  cap : n ≤ c
  big : c ≤ maxLen
  rb : RV w w.heap.size A (intsOf xs)
  wf : ∀ x ∈ xs, (Lit.int .i64 x).wf = true

end Go.Proofs.Ythogonpjkngpjaa

namespace Go.Proofs.Ythogonpjkngpjaa
set_option maxRecDepth 100000
open Go.RowKit

set_option maxHeartbeats 400000 in
theorem wordC (n : Int) (w : World) : Calls Try.prog 100 #[.int .i64 n] w fun e w' => e = .returned (.bool (isWord n)) ∧ w = w' := by
  by_cases h0 : 0 ≤ n
  · by_cases h1 : n ≤ 65535
    · have H := Lib.hid (isWord_iff.2 ⟨h0, h1⟩)
      go_enter Try.func100, Try.ntmps100
      go_wp2
      go_ret
      exact ⟨ret_bool H.out.symm, rfl⟩
    · have H := Lib.hid (isWord_not.2 (show n < 0 ∨ 65535 < n by omega))
      go_enter Try.func100, Try.ntmps100
      go_wp2
      go_ret
      exact ⟨ret_bool H.out.symm, rfl⟩
  · have H := Lib.hid (isWord_not.2 (show n < 0 ∨ 65535 < n by omega))
    go_enter Try.func100, Try.ntmps100
    go_wp2
    go_ret
    exact ⟨ret_bool H.out.symm, rfl⟩

theorem folded2 {a b : Int} (ha : isWord a = true) (hb : isWord b = true) : folded [a, b] = sadd a b := by
  rw [folded_yes (by simp [ha, hb]), sums, List.foldl_cons, sadd_zero ha]
  rfl

set_option maxHeartbeats 400000 in
theorem specAdd (a b : Int) (w : World) : Calls Try.prog 62 #[.int .i64 a, .int .i64 b] w fun e w' => e = .returned (.int .i64 (folded [a, b])) ∧ w = w' := by
  cases ha : isWord a with
  | true =>
    cases hb : isWord b with
    | true =>
      obtain ⟨a0, a1⟩ := isWord_iff.1 ha
      obtain ⟨b0, b1⟩ := isWord_iff.1 hb
      by_cases hbig : 65535 < a + b
      · have H := Lib.hid (show folded [a, b] = a + b - 65535 by rw [folded2 ha hb, sadd, if_pos hbig])
        go_enter Try.func62, Try.ntmps62
        go_wp2_with (go_at_call 100; refine (wordC _ _).mono ?_; rintro e w' ⟨rfl, rfl⟩)
        go_ret
        exact ⟨ret_int H.out.symm, rfl⟩
      · have H := Lib.hid (show folded [a, b] = a + b by rw [folded2 ha hb, sadd, if_neg hbig])
        go_enter Try.func62, Try.ntmps62
        go_wp2_with (go_at_call 100; refine (wordC _ _).mono ?_; rintro e w' ⟨rfl, rfl⟩)
        go_ret
        exact ⟨ret_int H.out.symm, rfl⟩
    | false =>
      have H := Lib.hid (show folded [a, b] = -1 from folded_no 1 (by simp) hb)
      go_enter Try.func62, Try.ntmps62
      go_wp2_with (go_at_call 100; refine (wordC _ _).mono ?_; rintro e w' ⟨rfl, rfl⟩)
      go_ret
      exact ⟨ret_int H.out.symm, rfl⟩
  | false =>
    have H := Lib.hid (show folded [a, b] = -1 from folded_no 0 (by simp) ha)
    go_enter Try.func62, Try.ntmps62
    go_wp2_with (go_at_call 100; refine (wordC _ _).mono ?_; rintro e w' ⟨rfl, rfl⟩)
    go_ret
    exact ⟨ret_int H.out.symm, rfl⟩

theorem specAddW (a b : Int) (w : World) (ha : isWord a = true) (hb : isWord b = true) : Calls Try.prog 62 #[.int .i64 a, .int .i64 b] w fun e w' => e = .returned (.int .i64 (sadd a b)) ∧ w = w' := by
  have := specAdd a b w
  rwa [folded2 ha hb] at this

set_option maxRecDepth 100000 in
set_option maxHeartbeats 1000000 in
theorem specOnes (A : Option Addr) (n c : Nat) (bs : List UInt8) (w : World) (hr : RB w w.heap.size A bs) (hl : bs.length = n) (hn : n ≤ 1048576) :
    Calls Try.prog 63 #[.slice A n c] w fun e w' => e = .returned (.int .i64 (onesSum bs)) ∧ w = w' := by
  subst hl
  by_cases h : 2000 < bs.length
  · have H := Lib.hid (show onesSum bs = -1 by rw [onesSum, if_pos h])
    go_enter Try.func63, Try.ntmps63
    go_wp2
    go_ret
    exact ⟨ret_int H.out.symm, rfl⟩
  · have H := Lib.hid (show onesSum bs = sums 0 (wordsL bs) by rw [onesSum, if_neg h])
    go_enter Try.func63, Try.ntmps63
    go_wp2
    go_loop [3, 4] (fun s i => ∃ k : Nat, k ≤ bs.length + 1 ∧ k % 2 = 0 ∧ i = .int .i64 k ∧ s = .int .i64 (sums 0 (wordsL (bs.take k)))) (fun _ i => bs.length + 1 - (intOf i).toNat)
    case atStart => exact ⟨0, Nat.zero_le _, rfl, rfl, rfl⟩
    case round =>
      obtain ⟨k, hk, he, rfl, rfl⟩ := hrel
      have hsw := sums_word _ 0 (by decide) (wordsL_word (bs.take k))
      have He := Lib.hid he
      clear he
      by_cases hlt : k < bs.length
      · obtain ⟨g, o, rfl, hg, hc⟩ := hr.at_ hlt
        have hb8 : bs[k].toNat < 256 := UInt8.toNat_lt _
        have hkI : (k : Int) < (bs.length : Int) := by omega
        by_cases hlt2 : k + 1 < bs.length
        · obtain ⟨g', o', hgo, hg', hc'⟩ := hr.at_ hlt2
          injection hgo with hgo
          injection hgo with h1 h2
          subst h1
          subst h2
          have hb9 : bs[k + 1].toNat < 256 := UInt8.toNat_lt _
          have hkJ : (k : Int) + 1 < (bs.length : Int) := by omega
          have hww : isWord (256 * (bs[k].toNat : Int) + bs[k + 1].toNat) = true := isWord_iff.2 (by omega)
          have E := Lib.hid (show sums 0 (wordsL (bs.take (k + 2))) = sadd (sums 0 (wordsL (bs.take k))) (256 * (bs[k].toNat : Int) + bs[k + 1].toNat) by rw [wordsL_odd bs k hlt2 He.out, sums_snoc])
          have Hsw := Lib.hid hsw
          have Hww := Lib.hid hww
          clear hsw hww hr
          go_wp2_with (go_at_call 62; refine (specAddW _ _ _ Hsw.out Hww.out).mono ?_; rintro e w' ⟨rfl, rfl⟩)
          go_round
          case rel => exact ⟨k + 2, by omega, by have := He.out; omega, by go_num, by rw [E.out]⟩
          case measure => simp [intOf]; omega
        · have hkJ : ¬ (k : Int) + 1 < (bs.length : Int) := by omega
          have hww : isWord (256 * (bs[k].toNat : Int)) = true := isWord_iff.2 (by omega)
          have E := Lib.hid (show sums 0 (wordsL (bs.take (k + 2))) = sadd (sums 0 (wordsL (bs.take k))) (256 * (bs[k].toNat : Int)) by
            rw [show bs.take (k + 2) = bs.take (k + 1) by rw [List.take_of_length_le (show bs.length ≤ k + 2 by omega), List.take_of_length_le (show bs.length ≤ k + 1 by omega)], wordsL_even bs k hlt He.out, sums_snoc])
          have Hsw := Lib.hid hsw
          have Hww := Lib.hid hww
          clear hsw hww hr
          go_wp2_with (go_at_call 62; refine (specAddW _ _ _ Hsw.out Hww.out).mono ?_; rintro e w' ⟨rfl, rfl⟩)
          go_round
          case rel => exact ⟨k + 2, by omega, by have := He.out; omega, by go_num, by rw [E.out]⟩
          case measure => simp [intOf]; omega
      · have e : bs.take k = bs := List.take_of_length_le (by omega)
        rw [e]
        clear hsw hr
        go_wp2
        go_ret
        exact ⟨ret_int H.out.symm, rfl⟩





end Go.Proofs.Ythogonpjkngpjaa

namespace Go.Proofs.Ythogonpjkngpjaa
set_option maxRecDepth 100000
open Go.RowKit

set_option maxHeartbeats 400000 in
theorem compC (n : Int) (w : World) : Calls Try.prog 66 #[.int .i64 n] w fun e w' => e = .returned (.int .i64 (comp n)) ∧ w = w' := by
  cases h : isWord n with
  | true =>
    have H := Lib.hid (comp_yes h)
    have hr := isWord_iff.1 h
    obtain ⟨r1, r2⟩ := hr
    clear h
    go_enter Try.func66, Try.ntmps66
    go_wp2_with (go_at_call 42; refine (within_yes _ _ _ _ (by omega) (by omega)).mono ?_; rintro e w' ⟨rfl, rfl⟩)
    go_ret
    exact ⟨ret_int H.out.symm, rfl⟩
  | false =>
    have H := Lib.hid (comp_no h)
    have hr := Lib.hid (isWord_not.1 h)
    clear h
    go_enter Try.func66, Try.ntmps66
    go_wp2_with (go_at_call 42; refine (within_no _ _ _ _ hr.out).mono ?_; rintro e w' ⟨rfl, rfl⟩)
    go_ret
    exact ⟨ret_int H.out.symm, rfl⟩

set_option maxHeartbeats 1000000 in
theorem foldedC (A : Option Addr) (n c : Nat) (ws : List Int) (w : World) (hr : RV w w.heap.size A (intsOf ws)) (hl : ws.length = n) (hn : n ≤ 1048576) :
    Calls Try.prog 67 #[.slice A n c] w fun e w' => e = .returned (.int .i64 (folded ws)) ∧ w = w' := by
  subst hl
  go_enter Try.func67, Try.ntmps67
  go_wp2
  go_loop [3, 8] (fun s i => ∃ k : Nat, k ≤ ws.length ∧ i = .int .i64 k ∧ (ws.take k).all isWord = true ∧ s = .int .i64 (sums 0 (ws.take k))) (fun _ i => ws.length - (intOf i).toNat)
  case atStart => exact ⟨0, Nat.zero_le _, rfl, rfl, rfl⟩
  case round =>
    obtain ⟨k, hk, rfl, hall, rfl⟩ := hrel
    by_cases hlt : k < ws.length
    · obtain ⟨g, o, rfl, hg, hc⟩ := hr.int hlt
      obtain ⟨s0, s1⟩ := isWord_iff.1 (sums_word _ 0 (by decide) hall)
      cases hx : isWord ws[k] with
      | true =>
        obtain ⟨x0, x1⟩ := isWord_iff.1 hx
        have Hall := Lib.hid (all_take_snoc ws k hlt hall hx)
        have Hs := Lib.hid (show sums 0 (ws.take (k + 1)) = sadd (sums 0 (ws.take k)) ws[k] by rw [take_snoc ws k hlt, sums_snoc])
        obtain ⟨s, hs⟩ : ∃ s, s = sums 0 (ws.take k) := ⟨_, rfl⟩
        obtain ⟨x, hx'⟩ : ∃ x, x = ws[k] := ⟨_, rfl⟩
        rw [← hs, ← hx'] at Hs
        rw [← hs] at s0 s1
        rw [← hx'] at x0 x1 hc
        rw [← hs]
        clear hs hx hx' hall hr
        by_cases hbig : 65535 < s + x
        · have e := Lib.hid (show sadd s x = s + x - 65535 by rw [sadd, if_pos hbig])
          go_wp2_with (go_at_call 42; refine (within_yes _ _ _ _ (by omega) (by omega)).mono ?_; rintro e w' ⟨rfl, rfl⟩)
          go_round
          case rel => exact ⟨k + 1, by omega, by go_num, Hall.out, by rw [Hs.out, e.out]⟩
          case measure => simp [intOf]; omega
        · have e := Lib.hid (show sadd s x = s + x by rw [sadd, if_neg hbig])
          go_wp2_with (go_at_call 42; refine (within_yes _ _ _ _ (by omega) (by omega)).mono ?_; rintro e w' ⟨rfl, rfl⟩)
          go_round
          case rel => exact ⟨k + 1, by omega, by go_num, Hall.out, by rw [Hs.out, e.out]⟩
          case measure => simp [intOf]; omega
      | false =>
        have H := Lib.hid (folded_no k hlt hx)
        have hno := Lib.hid (isWord_not.1 hx)
        clear hall hx hr
        go_wp2_with (go_at_call 42; refine (within_no _ _ _ _ hno.out).mono ?_; rintro e w' ⟨rfl, rfl⟩)
        go_ret
        exact ⟨ret_int H.out.symm, rfl⟩
    · obtain rfl : k = ws.length := by omega
      rw [List.take_length] at hall
      have H := Lib.hid (folded_yes hall)
      rw [List.take_length]
      clear hall
      go_wp2
      go_ret
      exact ⟨ret_int H.out.symm, rfl⟩

/-- The row of words as it is being filled. -/
def wRow (bs : List UInt8) (k : Nat) : List Int := wordsL (bs.take k) ++ List.replicate ((bs.length + 1) / 2 - (k + 1) / 2) 0
theorem wRow_zero (bs : List UInt8) : wRow bs 0 = List.replicate ((bs.length + 1) / 2) 0 := by simp [wRow, wordsL]
theorem wRow_full (bs : List UInt8) : wRow bs bs.length = wordsL bs := by simp [wRow]
theorem wRow_length (bs : List UInt8) (k : Nat) (h : k ≤ bs.length) : (wRow bs k).length = (bs.length + 1) / 2 := by
  rw [wRow, List.length_append, wordsL_length, List.length_replicate, List.length_take, Nat.min_eq_left h]
  omega
theorem wRow_even (bs : List UInt8) (k : Nat) (h : k < bs.length) (he : k % 2 = 0) :
    (intsOf (wRow bs k)).set (k / 2) (.int .i64 ((bs[k].toNat : Int) * 256)) = intsOf (wRow bs (k + 1)) := by
  rw [wRow, wRow, show (bs.length + 1) / 2 - (k + 1) / 2 = ((bs.length + 1) / 2 - (k + 1 + 1) / 2) + 1 by omega, List.replicate_succ, int_fill _ _ _ _ (k / 2) (by rw [wordsL_length, List.length_take]; omega), wordsL_even bs k h he, Int.mul_comm]
theorem wRow_get (bs : List UInt8) (k : Nat) (h : k < bs.length) (he : k % 2 = 1) : (wRow bs k)[k / 2]? = some (256 * (bs[k - 1].toNat : Int)) := by
  have e := wordsL_even bs (k - 1) (by omega) (by omega)
  rw [show k - 1 + 1 = k by omega] at e
  rw [wRow, e, List.append_assoc, List.getElem?_append_right (by rw [wordsL_length, List.length_take]; omega), wordsL_length, List.length_take, show k / 2 - (min (k - 1) bs.length + 1) / 2 = 0 by omega]
  rfl
theorem wRow_odd (bs : List UInt8) (k : Nat) (h : k < bs.length) (he : k % 2 = 1) :
    (intsOf (wRow bs k)).set (k / 2) (.int .i64 ((bs[k - 1].toNat : Int) * 256 + bs[k].toNat)) = intsOf (wRow bs (k + 1)) := by
  have e := wordsL_even bs (k - 1) (by omega) (by omega)
  have e2 := wordsL_odd bs (k - 1) (by omega) (by omega)
  have e3 : bs[k - 1 + 1]'(by omega) = bs[k] := by congr 1; omega
  rw [show k - 1 + 1 = k by omega] at e
  rw [e3, show k - 1 + 2 = k + 1 by omega] at e2
  rw [wRow, wRow, e, e2, show (k + 1 + 1) / 2 = (k + 1) / 2 by omega, List.append_assoc, List.singleton_append, int_fill _ _ _ _ (k / 2) (by rw [wordsL_length, List.length_take]; omega), Int.mul_comm]

set_option maxRecDepth 100000 in
set_option maxHeartbeats 1000000 in
theorem wordsOfC (A : Option Addr) (c : Nat) (bs : List UInt8) (w : World) (hr : RB w w.heap.size A bs) (hn : bs.length ≤ 1048576) :
    Calls Try.prog 104 #[.slice A bs.length c] w fun e w' => e = .returned (.slice (some ⟨w.heap.size, 0, none⟩) ((bs.length + 1) / 2) ((bs.length + 1) / 2)) ∧
      w'.ownsRow w.heap.size 3 1 (.slice (some ⟨w.heap.size, 0, none⟩) ((bs.length + 1) / 2) ((bs.length + 1) / 2)) ((bs.length + 1) / 2) (intsOf (wordsL bs)) ∧ Below w.heap.size w w' := by
  obtain ⟨i0, hi0, hz0, hz1, hz2⟩ := info_parts info_int
  go_enter Try.func104, Try.ntmps104
  go_wp2_with (at_make; refine wpList_make_full _ rfl _ _ 51 rfl w.heap.size 3 i0 (.int .i64 0) 1 Try.underlying51 hi0 hz0 hz1 _ _ _ _ ((bs.length + 1) / 2) rfl rfl (by omega) (by omega) (by rw [hz2]; omega) (by unfold maxLen; omega) (Nat.le_refl _) ?_; intro w1 hown hgrow)
  have hown0 : w1.ownsRow w.heap.size 3 1 (.slice (some ⟨w.heap.size, 0, none⟩) ((bs.length + 1) / 2) ((bs.length + 1) / 2)) ((bs.length + 1) / 2) (intsOf (wRow bs 0)) := by
    have e : (madeCells (Value.int IntKind.i64 0).cells ((bs.length + 1) / 2 * 1)).toList = intsOf (wRow bs 0) := by
      rw [wRow_zero]
      have := toList_madeCells_one (.int .i64 0) ((bs.length + 1) / 2)
      simpa [Value.cells, intsOf] using this
    rw [← e]; exact hown
  have hb1 : Below w.heap.size w w1 := (Below.refl _ _).grown hgrow (Nat.le_refl _) (by simp)
  clear hown hgrow
  go_loopw [13] (fun i wr => ∃ k : Nat, k ≤ bs.length ∧ i = .int .i64 k ∧ wr.ownsRow w.heap.size 3 1 (.slice (some ⟨w.heap.size, 0, none⟩) ((bs.length + 1) / 2) ((bs.length + 1) / 2)) ((bs.length + 1) / 2) (intsOf (wRow bs k)) ∧ Below w.heap.size w wr) (fun i _ => bs.length - (intOf i).toNat)
  case atStart => exact ⟨0, Nat.zero_le _, rfl, hown0, hb1⟩
  case round =>
    obtain ⟨k, hk, rfl, ho, hb⟩ := hrel
    clear hown0 hb1
    by_cases hlt : k < bs.length
    · obtain ⟨g, o, rfl, hg, hc0⟩ := hr.at_ hlt
      have hc : wr.cell? ⟨g, o + k, none⟩ = some (.int .u8 (bs[k].toNat : Int)) := (hb.cell (p := ⟨g, o + k, none⟩) hg).trans hc0
      have hb8 : bs[k].toNat < 256 := UInt8.toNat_lt _
      have hi2 : k / 2 < (bs.length + 1) / 2 := by omega
      have hfz := ho.frozenAt (k / 2)
      by_cases he : k % 2 = 0
      · have het : ((k : Int) % 2 == 0) = true := by simp; omega
        obtain ⟨u, hu⟩ : ∃ u, wr.cell? ⟨w.heap.size, k / 2, none⟩ = some u := by
          rw [ho.cellAt (k / 2) (by omega)]
          exact ⟨_, List.getElem?_eq_getElem (by rw [intsOf_length, wRow_length bs k hk]; omega)⟩
        have R := ho.stored (k / 2) (.int .i64 ((bs[k].toNat : Int) * 256))
        rw [wRow_even bs k hlt he] at R
        have R1 := Lib.hid R.1
        have R2 := Lib.hid (hb.setCell (p := ⟨w.heap.size, k / 2, none⟩) (Nat.le_refl _) (.int .i64 ((bs[k].toNat : Int) * 256)))
        clear R ho hc0 hr hb he
        go_wp2
        go_roundw
        case rel => exact ⟨k + 1, by omega, by go_num, R1.out, R2.out⟩
        case measure => simp [intOf]; omega
      · have hef : ((k : Int) % 2 == 0) = false := by simp; omega
        have hb7 : (bs[k - 1]'(by omega)).toNat < 256 := UInt8.toNat_lt _
        have hcell : wr.cell? ⟨w.heap.size, k / 2, none⟩ = some (.int .i64 ((bs[k - 1].toNat : Int) * 256)) := by
          rw [ho.cellAt (k / 2) (by omega), intsOf_get _ _ _ (wRow_get bs k hlt (by omega)), Int.mul_comm]
        have hor := or_byte (bs[k - 1]'(by omega)).toNat bs[k].toNat (by omega) hb8
        have R := ho.stored (k / 2) (.int .i64 ((bs[k - 1].toNat : Int) * 256 + bs[k].toNat))
        rw [wRow_odd bs k hlt (by omega)] at R
        have R1 := Lib.hid R.1
        have R2 := Lib.hid (hb.setCell (p := ⟨w.heap.size, k / 2, none⟩) (Nat.le_refl _) (.int .i64 ((bs[k - 1].toNat : Int) * 256 + bs[k].toNat)))
        clear R ho hc0 hr hb he
        go_wp2
        go_roundw
        case rel => exact ⟨k + 1, by omega, by go_num, R1.out, R2.out⟩
        case measure => simp [intOf]; omega
    · obtain rfl : k = bs.length := by omega
      rw [wRow_full] at ho
      have Ho := Lib.hid ho
      clear ho
      go_wp2
      go_ret
      exact ⟨rfl, Ho.out, hb⟩

set_option maxHeartbeats 400000 in
theorem implOnes (A : Option Addr) (n c : Nat) (bs : List UInt8) (w : World) (hr : RB w w.heap.size A bs) (hl : bs.length = n) (hn : n ≤ 1048576) :
    Calls Try.prog 69 #[.slice A n c] w fun e w' => e = .returned (.int .i64 (onesSum bs)) ∧ Below w.heap.size w w' := by
  subst hl
  by_cases h : 2000 < bs.length
  · have H := Lib.hid (show onesSum bs = -1 by rw [onesSum, if_pos h])
    go_enter Try.func69, Try.ntmps69
    go_wp2
    go_ret
    exact ⟨ret_int H.out.symm, Below.refl _ _⟩
  · have H := Lib.hid (show onesSum bs = folded (wordsL bs) by rw [onesSum, if_neg h, folded_yes (wordsL_word bs)])
    have hl := wordsL_length bs
    go_enter Try.func69, Try.ntmps69
    go_wp2_with fail
    refine (wordsOfC A c bs w hr hn).mono ?_
    rintro e w1 ⟨rfl, o1, b1⟩
    go_wp2_with fail
    refine (foldedC _ _ _ (wordsL bs) w1 (RV.of_own o1) hl (by omega)).mono ?_
    rintro e w2 ⟨rfl, rfl⟩
    go_wp2
    go_ret
    exact ⟨ret_int H.out.symm, b1⟩







end Go.Proofs.Ythogonpjkngpjaa

namespace Go.Proofs.Ythogonpjkngpjaa
set_option maxRecDepth 100000
open Go.RowKit

theorem specInB (n hi : Int) (b : Bool) (w : World) (h : upTo n hi = b) : Calls Try.prog 39 #[.int .i64 n, .int .i64 hi] w fun e w' => e = .returned (.bool b) ∧ w = w' := h ▸ specIn n hi w
end Go.Proofs.Ythogonpjkngpjaa

namespace Go.Proofs.Ythogonpjkngpjaa
set_option maxRecDepth 100000
open Go.RowKit

theorem info_addrP : (Try.prog.info? 27).map (·.size) = some 5 := by kernel_rfl
theorem info_laddrP : (Try.prog.info? 23).map (·.size) = some 5 := by kernel_rfl
theorem loadA {ops : Array Oper} {rest : List Oper} {o : Oper} {a : Act} {w : World} {Q : Exit → Act → World → Prop} (hgd : o.guard = none) (x : Operand) (ho : o.op = .load 27 x) (g : Nat) (hx : a.eval x = .pointer (some ⟨g, 0, none⟩)) {t : TypeId} {v0 v1 v2 v3 v4 : Value}
    (hg : w.heap[g]? = some (.cells #[v0, v1, v2, v3, v4] t (0, 0))) (h : wpList Try.prog ops Q rest (a.put o.dst (.agg #[v0, v1, v2, v3, v4])) w) : wpList Try.prog ops Q (o :: rest) a w :=
  wpList_load_row hgd 27 x ho g hx t _ (0, 0) _ hg Try.underlying27 rfl info_addrP h
theorem implOkB (x : Ad) (b : Bool) (h : x.ok = b) (w : World) : Calls Try.prog 85 #[.agg #[.int .i64 x.k, .int .i64 x.a, .int .i64 x.b, .int .i64 x.c, .int .i64 x.d]] w fun e w' => e = .returned (.bool b) ∧ Below w.heap.size w w' := h ▸ implAddrOk x w
theorem specOkB (x : Ad) (b : Bool) (h : x.ok = b) (w : World) : Calls Try.prog 80 #[.agg #[.int .i64 x.k, .int .i64 x.a, .int .i64 x.b, .int .i64 x.c, .int .i64 x.d]] w fun e w' => e = .returned (.bool b) ∧ Below w.heap.size w w' := h ▸ specAddrOk x w
theorem Ad.len4 {x : Ad} (h : x.ok = true) (k : x.k = 4) : x.bytes.length = 4 := by simp [Ad.bytes, h, k, put32]
theorem Ad.len6 {x : Ad} (h : x.ok = true) (k : ¬ x.k = 4) : x.bytes.length = 16 := by simp [Ad.bytes, h, k, Ad.whole_length]
theorem rb_lit2 (w : World) (p : Int) (hp : 0 ≤ p ∧ p ≤ 255) : RB (w.alloc (.cells #[.int .u8 0, .int .u8 p] 5)) (w.heap.size + 1) (some ⟨w.heap.size, 0, none⟩) [0, byteOf p] := by
  have h := RB.new w 5 [0, byteOf p]
  have e : (cellsOf [0, byteOf p]).toArray = #[.int .u8 0, .int .u8 p] := by simp [cellsOf, byteOf_val, Int.emod_eq_of_lt hp.1 (show p < 256 by omega)]
  rwa [e] at h
theorem rb_lit4 (w : World) (p : Int) (hp : 0 ≤ p ∧ p ≤ 255) : RB (w.alloc (.cells #[.int .u8 0, .int .u8 0, .int .u8 0, .int .u8 p] 5)) (w.heap.size + 1) (some ⟨w.heap.size, 0, none⟩) [0, 0, 0, byteOf p] := by
  have h := RB.new w 5 [0, 0, 0, byteOf p]
  have e : (cellsOf [0, 0, 0, byteOf p]).toArray = #[.int .u8 0, .int .u8 0, .int .u8 0, .int .u8 p] := by simp [cellsOf, byteOf_val, Int.emod_eq_of_lt hp.1 (show p < 256 by omega)]
  rwa [e] at h

section
variable {o : Oper} {a : Act} {w : World} {K : Act → World → Prop} {Q : Exit → Act → World → Prop}
theorem u_addrBytesI (x : Operand) (x0 : Value) (ts : Array TypeId) (ho : o.op = .call { callee := .value (.func 77), args := #[x], argTypes := ts }) (h0 : a.eval x = x0)
    (h : Calls Try.prog 77 #[x0] w fun e w' => ∃ v, e = .returned v ∧ K (a.put o.dst v) w') : o.wp Try.prog a w K Q := by
  unfold Oper.wp execOp
  simp only [ho, resolve, List.map_toArray, List.map_cons, List.map_nil, h0, show ∀ f, a.eval (.func f) = .func (.func f) #[] #[] from fun _ => rfl]
  go_simp
  exact h.mono fun e w' ⟨u, he, hk⟩ => by subst he; exact hk
theorem u_addrBytesS (x : Operand) (x0 : Value) (ts : Array TypeId) (ho : o.op = .call { callee := .value (.func 98), args := #[x], argTypes := ts }) (h0 : a.eval x = x0)
    (h : Calls Try.prog 98 #[x0] w fun e w' => ∃ v, e = .returned v ∧ K (a.put o.dst v) w') : o.wp Try.prog a w K Q := by
  unfold Oper.wp execOp
  simp only [ho, resolve, List.map_toArray, List.map_cons, List.map_nil, h0, show ∀ f, a.eval (.func f) = .func (.func f) #[] #[] from fun _ => rfl]
  go_simp
  exact h.mono fun e w' ⟨u, he, hk⟩ => by subst he; exact hk
end

set_option maxHeartbeats 2000000 in
theorem pairI (x y : Ad) (w : World) : Calls Try.prog 40 #[.agg #[.int .i64 x.k, .int .i64 x.a, .int .i64 x.b, .int .i64 x.c, .int .i64 x.d], .agg #[.int .i64 y.k, .int .i64 y.a, .int .i64 y.b, .int .i64 y.c, .int .i64 y.d]] w fun e w' => e = .returned (.bool (pairA x y)) ∧ Below w.heap.size w w' := by
  have q0 : Hid (((w.alloc (.cells #[.int .i64 x.k, .int .i64 x.a, .int .i64 x.b, .int .i64 x.c, .int .i64 x.d] 27)).alloc (.cells #[.int .i64 y.k, .int .i64 y.a, .int .i64 y.b, .int .i64 y.c, .int .i64 y.d] 27)).heap[w.heap.size]? = some (.cells #[.int .i64 x.k, .int .i64 x.a, .int .i64 x.b, .int .i64 x.c, .int .i64 x.d] 27)) := Lib.hid (by repeat (first | exact K.newAt (by first | rfl | (simp; done)) | refine K.oldAt (by first | (simp; done) | (simp; omega)) ?_))
  have q1 : Hid (((w.alloc (.cells #[.int .i64 x.k, .int .i64 x.a, .int .i64 x.b, .int .i64 x.c, .int .i64 x.d] 27)).alloc (.cells #[.int .i64 y.k, .int .i64 y.a, .int .i64 y.b, .int .i64 y.c, .int .i64 y.d] 27)).heap[w.heap.size + 1]? = some (.cells #[.int .i64 y.k, .int .i64 y.a, .int .i64 y.b, .int .i64 y.c, .int .i64 y.d] 27)) := Lib.hid (by repeat (first | exact K.newAt (by first | rfl | (simp; done)) | refine K.oldAt (by first | (simp; done) | (simp; omega)) ?_))
  cases hx : x.ok with
  | false =>
    have HX := Lib.hid hx
    have HR := Lib.hid (show pairA x y = false by simp [pairA, hx])
    clear hx
    go_enter Try.func40, Try.ntmps40
    go_wp2_with (with_reducible refine loadA rfl _ rfl w.heap.size rfl q0.out ?_)
    refine Calls.mono (implOkB x false HX.out _) ?_
    rintro e w1 ⟨rfl, b1⟩
    have B1 := Lib.hid (bthen (Joins.below_alloc2 w _ _) b1)
    clear b1
    go_wp2
    go_ret
    exact ⟨ret_bool HR.out.symm, B1.out⟩
  | true =>
    cases hy : y.ok with
    | false =>
      have HX := Lib.hid hx
      have HY := Lib.hid hy
      have HR := Lib.hid (show pairA x y = false by simp [pairA, hy])
      clear hx hy
      go_enter Try.func40, Try.ntmps40
      go_wp2_with (with_reducible refine loadA rfl _ rfl w.heap.size rfl q0.out ?_)
      refine Calls.mono (implOkB x true HX.out _) ?_
      rintro e w1 ⟨rfl, b1⟩
      have B1 := Lib.hid (bthen (Joins.below_alloc2 w _ _) b1)
      have q2 := Lib.hid (K.below b1 q1.out)
      clear b1
      have c := K.row5 q2.out
      obtain ⟨c0, c1, c2, c3, c4⟩ := c
      go_wp2_with fail
      refine Calls.mono (implOkB y false HY.out _) ?_
      rintro e w2 ⟨rfl, b2⟩
      have B2 := Lib.hid (bthen B1.out b2)
      clear b2 c0 c1 c2 c3 c4
      go_wp2
      go_ret
      exact ⟨ret_bool HR.out.symm, B2.out⟩
    | true =>
      have HX := Lib.hid hx
      have HY := Lib.hid hy
      have HR := Lib.hid (show pairA x y = decide (x.k = y.k) by simp [pairA, hx, hy])
      clear hx hy
      go_enter Try.func40, Try.ntmps40
      go_wp2_with (with_reducible refine loadA rfl _ rfl w.heap.size rfl q0.out ?_)
      refine Calls.mono (implOkB x true HX.out _) ?_
      rintro e w1 ⟨rfl, b1⟩
      have B1 := Lib.hid (bthen (Joins.below_alloc2 w _ _) b1)
      have q2 := Lib.hid (K.below b1 q1.out)
      have p2 := Lib.hid (K.below b1 q0.out)
      clear b1
      obtain ⟨c0, c1, c2, c3, c4⟩ := K.row5 q2.out
      go_wp2_with fail
      refine Calls.mono (implOkB y true HY.out _) ?_
      rintro e w2 ⟨rfl, b2⟩
      have B2 := Lib.hid (bthen B1.out b2)
      have d0 := K.cell (K.below b2 q2.out) 0 _ rfl
      have d1 := K.cell (K.below b2 p2.out) 0 _ rfl
      clear b2 c0 c1 c2 c3 c4
      go_wp2
      go_ret
      exact ⟨ret_bool (by rw [HR.out]; rfl), B2.out⟩

set_option maxHeartbeats 2000000 in
theorem pairS (x y : Ad) (w : World) : Calls Try.prog 38 #[.agg #[.int .i64 x.k, .int .i64 x.a, .int .i64 x.b, .int .i64 x.c, .int .i64 x.d], .agg #[.int .i64 y.k, .int .i64 y.a, .int .i64 y.b, .int .i64 y.c, .int .i64 y.d]] w fun e w' => e = .returned (.bool (pairA x y)) ∧ Below w.heap.size w w' := by
  have q0 : Hid (((w.alloc (.cells #[.int .i64 x.k, .int .i64 x.a, .int .i64 x.b, .int .i64 x.c, .int .i64 x.d] 27)).alloc (.cells #[.int .i64 y.k, .int .i64 y.a, .int .i64 y.b, .int .i64 y.c, .int .i64 y.d] 27)).heap[w.heap.size]? = some (.cells #[.int .i64 x.k, .int .i64 x.a, .int .i64 x.b, .int .i64 x.c, .int .i64 x.d] 27)) := Lib.hid (by repeat (first | exact K.newAt (by first | rfl | (simp; done)) | refine K.oldAt (by first | (simp; done) | (simp; omega)) ?_))
  have q1 : Hid (((w.alloc (.cells #[.int .i64 x.k, .int .i64 x.a, .int .i64 x.b, .int .i64 x.c, .int .i64 x.d] 27)).alloc (.cells #[.int .i64 y.k, .int .i64 y.a, .int .i64 y.b, .int .i64 y.c, .int .i64 y.d] 27)).heap[w.heap.size + 1]? = some (.cells #[.int .i64 y.k, .int .i64 y.a, .int .i64 y.b, .int .i64 y.c, .int .i64 y.d] 27)) := Lib.hid (by repeat (first | exact K.newAt (by first | rfl | (simp; done)) | refine K.oldAt (by first | (simp; done) | (simp; omega)) ?_))
  cases hx : x.ok with
  | false =>
    have HX := Lib.hid hx
    have HR := Lib.hid (show pairA x y = false by simp [pairA, hx])
    clear hx
    go_enter Try.func38, Try.ntmps38
    go_wp2_with (with_reducible refine loadA rfl _ rfl w.heap.size rfl q0.out ?_)
    refine Calls.mono (specOkB x false HX.out _) ?_
    rintro e w1 ⟨rfl, b1⟩
    have B1 := Lib.hid (bthen (Joins.below_alloc2 w _ _) b1)
    clear b1
    go_wp2
    go_ret
    exact ⟨ret_bool HR.out.symm, B1.out⟩
  | true =>
    cases hy : y.ok with
    | false =>
      have HX := Lib.hid hx
      have HY := Lib.hid hy
      have HR := Lib.hid (show pairA x y = false by simp [pairA, hy])
      clear hx hy
      go_enter Try.func38, Try.ntmps38
      go_wp2_with (with_reducible refine loadA rfl _ rfl w.heap.size rfl q0.out ?_)
      refine Calls.mono (specOkB x true HX.out _) ?_
      rintro e w1 ⟨rfl, b1⟩
      have B1 := Lib.hid (bthen (Joins.below_alloc2 w _ _) b1)
      have q2 := Lib.hid (K.below b1 q1.out)
      clear b1
      have c := K.row5 q2.out
      obtain ⟨c0, c1, c2, c3, c4⟩ := c
      go_wp2_with fail
      refine Calls.mono (specOkB y false HY.out _) ?_
      rintro e w2 ⟨rfl, b2⟩
      have B2 := Lib.hid (bthen B1.out b2)
      clear b2 c0 c1 c2 c3 c4
      go_wp2
      go_ret
      exact ⟨ret_bool HR.out.symm, B2.out⟩
    | true =>
      have HX := Lib.hid hx
      have HY := Lib.hid hy
      have HR := Lib.hid (show pairA x y = decide (x.k = y.k) by simp [pairA, hx, hy])
      clear hx hy
      go_enter Try.func38, Try.ntmps38
      go_wp2_with (with_reducible refine loadA rfl _ rfl w.heap.size rfl q0.out ?_)
      refine Calls.mono (specOkB x true HX.out _) ?_
      rintro e w1 ⟨rfl, b1⟩
      have B1 := Lib.hid (bthen (Joins.below_alloc2 w _ _) b1)
      have q2 := Lib.hid (K.below b1 q1.out)
      have p2 := Lib.hid (K.below b1 q0.out)
      clear b1
      obtain ⟨c0, c1, c2, c3, c4⟩ := K.row5 q2.out
      go_wp2_with fail
      refine Calls.mono (specOkB y true HY.out _) ?_
      rintro e w2 ⟨rfl, b2⟩
      have B2 := Lib.hid (bthen B1.out b2)
      have d0 := K.cell (K.below b2 q2.out) 0 _ rfl
      have d1 := K.cell (K.below b2 p2.out) 0 _ rfl
      clear b2 c0 c1 c2 c3 c4
      go_wp2
      go_ret
      exact ⟨ret_bool (by rw [HR.out]; rfl), B2.out⟩
end Go.Proofs.Ythogonpjkngpjaa

namespace Go.Proofs.Ythogonpjkngpjaa
set_option maxRecDepth 100000
open Go.RowKit

theorem pairIB (x y : Ad) (b : Bool) (h : pairA x y = b) (w : World) : Calls Try.prog 40 #[.agg #[.int .i64 x.k, .int .i64 x.a, .int .i64 x.b, .int .i64 x.c, .int .i64 x.d], .agg #[.int .i64 y.k, .int .i64 y.a, .int .i64 y.b, .int .i64 y.c, .int .i64 y.d]] w fun e w' => e = .returned (.bool b) ∧ Below w.heap.size w w' := h ▸ pairI x y w
theorem pairSB (x y : Ad) (b : Bool) (h : pairA x y = b) (w : World) : Calls Try.prog 38 #[.agg #[.int .i64 x.k, .int .i64 x.a, .int .i64 x.b, .int .i64 x.c, .int .i64 x.d], .agg #[.int .i64 y.k, .int .i64 y.a, .int .i64 y.b, .int .i64 y.c, .int .i64 y.d]] w fun e w' => e = .returned (.bool b) ∧ Below w.heap.size w w' := h ▸ pairS x y w
set_option maxHeartbeats 400000 in
theorem protoB (p : Int) (b : Bool) (w : World) (h : upTo p 255 = b) : Calls Try.prog 41 #[.int .i64 p] w fun e w' => e = .returned (.bool b) ∧ Below w.heap.size w w' := by
  have H := Lib.hid h
  clear h
  go_enter Try.func41, Try.ntmps41
  go_wp2_with fail
  refine Calls.mono (withinU p 255 b _ H.out) ?_
  rintro e w1 ⟨rfl, b1⟩
  go_wp2
  go_ret
  exact ⟨rfl, b1⟩
theorem put32S (n : Int) (w : World) : Calls Try.prog 99 #[.int .i64 n] w (TwoOut (put32 n) 4 w) := (specPut32 n w).mono fun _ _ ⟨D, d, h, o, b⟩ => ⟨D, d, h, o, b⟩
theorem inSB (n hi : Int) (b : Bool) (w : World) (h : upTo n hi = b) : Calls Try.prog 39 #[.int .i64 n, .int .i64 hi] w fun e w' => e = .returned (.bool b) ∧ Below w.heap.size w w' := (specInB n hi b w h).mono fun _ _ ⟨he, hw⟩ => ⟨he, hw ▸ Below.refl _ _⟩
theorem bytesNI (x : Ad) (l : Nat) (h : x.bytes.length = l) (w : World) : Calls Try.prog 77 #[.agg #[.int .i64 x.k, .int .i64 x.a, .int .i64 x.b, .int .i64 x.c, .int .i64 x.d]] w fun e w' => ∃ A c, e = .returned (.slice A l c) ∧ w'.ownsRow w.heap.size 5 1 (.slice A l c) l (cellsOf x.bytes) ∧ Below w.heap.size w w' := h ▸ implAddrBytes x w
theorem bytesNS (x : Ad) (l : Nat) (h : x.bytes.length = l) (w : World) : Calls Try.prog 98 #[.agg #[.int .i64 x.k, .int .i64 x.a, .int .i64 x.b, .int .i64 x.c, .int .i64 x.d]] w fun e w' => ∃ A c, e = .returned (.slice A l c) ∧ w'.ownsRow w.heap.size 5 1 (.slice A l c) l (cellsOf x.bytes) ∧ Below w.heap.size w w' := h ▸ specAddrBytes x w

set_option maxHeartbeats 1000000 in
theorem psI_no1 (x y : Ad) (p s : Int) (w : World) (h1 : pairA x y = false) : Calls Try.prog 103 #[.agg #[.int .i64 x.k, .int .i64 x.a, .int .i64 x.b, .int .i64 x.c, .int .i64 x.d], .agg #[.int .i64 y.k, .int .i64 y.a, .int .i64 y.b, .int .i64 y.c, .int .i64 y.d], .int .i64 p, .int .i64 s] w fun e w' => e = .returned (.int .i64 (psSum x y p s)) ∧ Below w.heap.size w w' := by
  have HR := Lib.hid (psSum_no (x := x) (y := y) (p := p) (s := s) (by simp [*]))
  have H1 := Lib.hid h1
  clear h1
  have q0 : Hid (((w.alloc (.cells #[.int .i64 x.k, .int .i64 x.a, .int .i64 x.b, .int .i64 x.c, .int .i64 x.d] 27)).alloc (.cells #[.int .i64 y.k, .int .i64 y.a, .int .i64 y.b, .int .i64 y.c, .int .i64 y.d] 27)).heap[w.heap.size]? = some (.cells #[.int .i64 x.k, .int .i64 x.a, .int .i64 x.b, .int .i64 x.c, .int .i64 x.d] 27)) := Lib.hid (by repeat (first | exact K.newAt (by first | rfl | (simp; done)) | refine K.oldAt (by first | (simp; done) | (simp; omega)) ?_))
  have q1 : Hid (((w.alloc (.cells #[.int .i64 x.k, .int .i64 x.a, .int .i64 x.b, .int .i64 x.c, .int .i64 x.d] 27)).alloc (.cells #[.int .i64 y.k, .int .i64 y.a, .int .i64 y.b, .int .i64 y.c, .int .i64 y.d] 27)).heap[w.heap.size + 1]? = some (.cells #[.int .i64 y.k, .int .i64 y.a, .int .i64 y.b, .int .i64 y.c, .int .i64 y.d] 27)) := Lib.hid (by repeat (first | exact K.newAt (by first | rfl | (simp; done)) | refine K.oldAt (by first | (simp; done) | (simp; omega)) ?_))
  go_enter Try.func103, Try.ntmps103
  go_wp2_with (first | (with_reducible refine loadA rfl _ rfl w.heap.size rfl q0.out ?_) | (with_reducible refine loadA rfl _ rfl (w.heap.size + 1) rfl q1.out ?_))
  refine Calls.mono (pairIB x y false H1.out _) ?_
  rintro e w1 ⟨rfl, b1⟩
  have B1 := Lib.hid (bthen (Joins.below_alloc2 w _ _) b1)
  clear b1
  go_wp2
  go_ret
  exact ⟨ret_int HR.out.symm, B1.out⟩

set_option maxHeartbeats 1000000 in
theorem psI_no2 (x y : Ad) (p s : Int) (w : World) (h1 : pairA x y = true) (h2 : upTo p 255 = false) : Calls Try.prog 103 #[.agg #[.int .i64 x.k, .int .i64 x.a, .int .i64 x.b, .int .i64 x.c, .int .i64 x.d], .agg #[.int .i64 y.k, .int .i64 y.a, .int .i64 y.b, .int .i64 y.c, .int .i64 y.d], .int .i64 p, .int .i64 s] w fun e w' => e = .returned (.int .i64 (psSum x y p s)) ∧ Below w.heap.size w w' := by
  have HR := Lib.hid (psSum_no (x := x) (y := y) (p := p) (s := s) (by simp [*]))
  have H1 := Lib.hid h1
  have H2 := Lib.hid h2
  clear h1 h2
  have q0 : Hid (((w.alloc (.cells #[.int .i64 x.k, .int .i64 x.a, .int .i64 x.b, .int .i64 x.c, .int .i64 x.d] 27)).alloc (.cells #[.int .i64 y.k, .int .i64 y.a, .int .i64 y.b, .int .i64 y.c, .int .i64 y.d] 27)).heap[w.heap.size]? = some (.cells #[.int .i64 x.k, .int .i64 x.a, .int .i64 x.b, .int .i64 x.c, .int .i64 x.d] 27)) := Lib.hid (by repeat (first | exact K.newAt (by first | rfl | (simp; done)) | refine K.oldAt (by first | (simp; done) | (simp; omega)) ?_))
  have q1 : Hid (((w.alloc (.cells #[.int .i64 x.k, .int .i64 x.a, .int .i64 x.b, .int .i64 x.c, .int .i64 x.d] 27)).alloc (.cells #[.int .i64 y.k, .int .i64 y.a, .int .i64 y.b, .int .i64 y.c, .int .i64 y.d] 27)).heap[w.heap.size + 1]? = some (.cells #[.int .i64 y.k, .int .i64 y.a, .int .i64 y.b, .int .i64 y.c, .int .i64 y.d] 27)) := Lib.hid (by repeat (first | exact K.newAt (by first | rfl | (simp; done)) | refine K.oldAt (by first | (simp; done) | (simp; omega)) ?_))
  go_enter Try.func103, Try.ntmps103
  go_wp2_with (first | (with_reducible refine loadA rfl _ rfl w.heap.size rfl q0.out ?_) | (with_reducible refine loadA rfl _ rfl (w.heap.size + 1) rfl q1.out ?_))
  refine Calls.mono (pairIB x y true H1.out _) ?_
  rintro e w1 ⟨rfl, b1⟩
  have B1 := Lib.hid (bthen (Joins.below_alloc2 w _ _) b1)
  clear b1
  go_wp2_with fail
  refine Calls.mono (protoB p false _ H2.out) ?_
  rintro e w2 ⟨rfl, b2⟩
  have B2 := Lib.hid (bthen B1.out b2)
  clear b2
  go_wp2
  go_ret
  exact ⟨ret_int HR.out.symm, B2.out⟩

set_option maxHeartbeats 1000000 in
theorem psI_no3 (x y : Ad) (p s : Int) (w : World) (h1 : pairA x y = true) (h2 : upTo p 255 = true) (h3 : upTo s 1500 = false) : Calls Try.prog 103 #[.agg #[.int .i64 x.k, .int .i64 x.a, .int .i64 x.b, .int .i64 x.c, .int .i64 x.d], .agg #[.int .i64 y.k, .int .i64 y.a, .int .i64 y.b, .int .i64 y.c, .int .i64 y.d], .int .i64 p, .int .i64 s] w fun e w' => e = .returned (.int .i64 (psSum x y p s)) ∧ Below w.heap.size w w' := by
  have HR := Lib.hid (psSum_no (x := x) (y := y) (p := p) (s := s) (by simp [*]))
  have H1 := Lib.hid h1
  have H2 := Lib.hid h2
  have H3 := Lib.hid h3
  clear h1 h2 h3
  have q0 : Hid (((w.alloc (.cells #[.int .i64 x.k, .int .i64 x.a, .int .i64 x.b, .int .i64 x.c, .int .i64 x.d] 27)).alloc (.cells #[.int .i64 y.k, .int .i64 y.a, .int .i64 y.b, .int .i64 y.c, .int .i64 y.d] 27)).heap[w.heap.size]? = some (.cells #[.int .i64 x.k, .int .i64 x.a, .int .i64 x.b, .int .i64 x.c, .int .i64 x.d] 27)) := Lib.hid (by repeat (first | exact K.newAt (by first | rfl | (simp; done)) | refine K.oldAt (by first | (simp; done) | (simp; omega)) ?_))
  have q1 : Hid (((w.alloc (.cells #[.int .i64 x.k, .int .i64 x.a, .int .i64 x.b, .int .i64 x.c, .int .i64 x.d] 27)).alloc (.cells #[.int .i64 y.k, .int .i64 y.a, .int .i64 y.b, .int .i64 y.c, .int .i64 y.d] 27)).heap[w.heap.size + 1]? = some (.cells #[.int .i64 y.k, .int .i64 y.a, .int .i64 y.b, .int .i64 y.c, .int .i64 y.d] 27)) := Lib.hid (by repeat (first | exact K.newAt (by first | rfl | (simp; done)) | refine K.oldAt (by first | (simp; done) | (simp; omega)) ?_))
  go_enter Try.func103, Try.ntmps103
  go_wp2_with (first | (with_reducible refine loadA rfl _ rfl w.heap.size rfl q0.out ?_) | (with_reducible refine loadA rfl _ rfl (w.heap.size + 1) rfl q1.out ?_))
  refine Calls.mono (pairIB x y true H1.out _) ?_
  rintro e w1 ⟨rfl, b1⟩
  have B1 := Lib.hid (bthen (Joins.below_alloc2 w _ _) b1)
  clear b1
  go_wp2_with fail
  refine Calls.mono (protoB p true _ H2.out) ?_
  rintro e w2 ⟨rfl, b2⟩
  have B2 := Lib.hid (bthen B1.out b2)
  clear b2
  go_wp2_with fail
  refine Calls.mono (withinU s 1500 false _ H3.out) ?_
  rintro e w3 ⟨rfl, b3⟩
  have B3 := Lib.hid (bthen B2.out b3)
  clear b3
  go_wp2
  go_ret
  exact ⟨ret_int HR.out.symm, B3.out⟩

set_option maxHeartbeats 4000000 in
theorem psI_four (x y : Ad) (p s : Int) (w : World) (h1 : pairA x y = true) (h2 : upTo p 255 = true) (h3 : upTo s 1500 = true) (hk : x.k = 4) : Calls Try.prog 103 #[.agg #[.int .i64 x.k, .int .i64 x.a, .int .i64 x.b, .int .i64 x.c, .int .i64 x.d], .agg #[.int .i64 y.k, .int .i64 y.a, .int .i64 y.b, .int .i64 y.c, .int .i64 y.d], .int .i64 p, .int .i64 s] w fun e w' => e = .returned (.int .i64 (psSum x y p s)) ∧ Below w.heap.size w w' := by
  have hxy : (x.ok = true ∧ y.ok = true) ∧ x.k = y.k := by simpa [pairA] using h1
  have hp : 0 ≤ p ∧ p ≤ 255 := upTo_iff.1 h2
  have hpw : IntKind.u8.wrap p = p := by rw [IntKind.wrap_u8]; omega
  have EL0 := Lib.hid (show (x.bytes).length = 4 from Ad.len4 hxy.1.1 hk)
  have ELY := Lib.hid (show y.bytes.length = 4 from Ad.len4 hxy.1.2 (by rw [← hxy.2]; exact hk))
  have EL1 := Lib.hid (show (x.bytes ++ y.bytes).length = 8 by rw [List.length_append, EL0.out, ELY.out])
  have EL2 := Lib.hid (show (x.bytes ++ y.bytes ++ [0, byteOf p]).length = 10 by rw [List.length_append, EL1.out]; rfl)
  have EL3 := Lib.hid (show (x.bytes ++ y.bytes ++ [0, byteOf p] ++ put16 s).length = 12 by rw [List.length_append, EL2.out]; rfl)
  have HR := Lib.hid (show psSum x y p s = onesSum (x.bytes ++ y.bytes ++ [0, byteOf p] ++ put16 s) by rw [psSum_yes (by simp [h1, h2, h3])]; simp [psBytes, hk])
  have H1 := Lib.hid h1
  have H2 := Lib.hid h2
  have H3 := Lib.hid h3
  have HK := Lib.hid hk
  clear h1 h2 h3 hk hxy
  have q0 : Hid (((w.alloc (.cells #[.int .i64 x.k, .int .i64 x.a, .int .i64 x.b, .int .i64 x.c, .int .i64 x.d] 27)).alloc (.cells #[.int .i64 y.k, .int .i64 y.a, .int .i64 y.b, .int .i64 y.c, .int .i64 y.d] 27)).heap[w.heap.size]? = some (.cells #[.int .i64 x.k, .int .i64 x.a, .int .i64 x.b, .int .i64 x.c, .int .i64 x.d] 27)) := Lib.hid (by repeat (first | exact K.newAt (by first | rfl | (simp; done)) | refine K.oldAt (by first | (simp; done) | (simp; omega)) ?_))
  have q1 : Hid (((w.alloc (.cells #[.int .i64 x.k, .int .i64 x.a, .int .i64 x.b, .int .i64 x.c, .int .i64 x.d] 27)).alloc (.cells #[.int .i64 y.k, .int .i64 y.a, .int .i64 y.b, .int .i64 y.c, .int .i64 y.d] 27)).heap[w.heap.size + 1]? = some (.cells #[.int .i64 y.k, .int .i64 y.a, .int .i64 y.b, .int .i64 y.c, .int .i64 y.d] 27)) := Lib.hid (by repeat (first | exact K.newAt (by first | rfl | (simp; done)) | refine K.oldAt (by first | (simp; done) | (simp; omega)) ?_))
  go_enter Try.func103, Try.ntmps103
  go_wp2_with (first | (with_reducible refine loadA rfl _ rfl w.heap.size rfl q0.out ?_) | (with_reducible refine loadA rfl _ rfl (w.heap.size + 1) rfl q1.out ?_))
  refine Calls.mono (pairIB x y true H1.out _) ?_
  rintro e w1 ⟨rfl, b1⟩
  have B1 := Lib.hid (bthen (Joins.below_alloc2 w _ _) b1)
  have q0_1 := Lib.hid (K.below b1 q0.out)
  have q1_1 := Lib.hid (K.below b1 q1.out)
  clear b1
  go_wp2_with fail
  refine Calls.mono (protoB p true _ H2.out) ?_
  rintro e w2 ⟨rfl, b2⟩
  have B2 := Lib.hid (bthen B1.out b2)
  have q0_2 := Lib.hid (K.below b2 q0_1.out)
  have q1_2 := Lib.hid (K.below b2 q1_1.out)
  clear b2
  go_wp2_with fail
  refine Calls.mono (withinU s 1500 true _ H3.out) ?_
  rintro e w3 ⟨rfl, b3⟩
  have B3 := Lib.hid (bthen B2.out b3)
  have q0_3 := Lib.hid (K.below b3 q0_2.out)
  have q1_3 := Lib.hid (K.below b3 q1_2.out)
  clear b3
  clear q0 q1 q0_1 q1_1 q0_2 q1_2 B1 B2
  have LZ : w.heap.size + 2 ≤ w3.heap.size := by have := K.lt q1_3.out; omega
  go_wp2_with fail
  refine wp_region_owns (by kernel_rfl) 4 52 [(0, 24), (1, 25), (2, 26), (3, 27)] _ ([.val (.agg #[.int .i64 x.k, .int .i64 x.a, .int .i64 x.b, .int .i64 x.c, .int .i64 x.d]), .own (w.heap.size + 2) 4 x.bytes, .val (.agg #[.int .i64 y.k, .int .i64 y.a, .int .i64 y.b, .int .i64 y.c, .int .i64 y.d]), .rb 4 y.bytes]) (by kernel_rfl) (by kernel_rfl) rfl rfl ?_ ?_
  · intro j o hj ho a' v K' hx hnd hB hK
    match j, hj, ho with
    | 0, _, ho =>
      obtain rfl := Option.some.inj ho
      have h0 : a'.eval (.tmp 4) = .pointer (some ⟨w.heap.size, 0, none⟩) := (hx 4 (by decide)).trans rfl
      exact wp_load_row 27 _ rfl w.heap.size h0 _ _ (0, 0) _ (K.below hB q0_3.out) Try.underlying27 rfl info_addrP (hK _ _ rfl (Below.refl _ _))
    | 1, _, ho =>
      obtain rfl := Option.some.inj ho
      have h0 : a'.eval (.tmp 24) = .agg #[.int .i64 x.k, .int .i64 x.a, .int .i64 x.b, .int .i64 x.c, .int .i64 x.d] := (owns_of hnd 0 24 (by kernel_rfl) :)
      refine u_addrBytesI _ _ _ rfl h0 (Calls.mono (bytesNI x 4 EL0.out v) ?_)
      rintro e' v' ⟨X, y, rfl, o6, b6⟩
      exact ⟨_, rfl, hK _ _ ⟨X, y, rfl, own_base o6 (Nat.le_trans LZ hB.size)⟩ b6⟩
    | 2, _, ho =>
      obtain rfl := Option.some.inj ho
      have h0 : a'.eval (.tmp 5) = .pointer (some ⟨w.heap.size + 1, 0, none⟩) := (hx 5 (by decide)).trans rfl
      exact wp_load_row 27 _ rfl (w.heap.size + 1) h0 _ _ (0, 0) _ (K.below hB q1_3.out) Try.underlying27 rfl info_addrP (hK _ _ rfl (Below.refl _ _))
    | 3, _, ho =>
      obtain rfl := Option.some.inj ho
      have h0 : a'.eval (.tmp 26) = .agg #[.int .i64 y.k, .int .i64 y.a, .int .i64 y.b, .int .i64 y.c, .int .i64 y.d] := (owns_of hnd 2 26 (by kernel_rfl) :)
      refine u_addrBytesI _ _ _ rfl h0 (Calls.mono (bytesNI y 4 ELY.out v) ?_)
      rintro e' v' ⟨X, z, rfl, o6, b6⟩
      exact ⟨_, rfl, hK _ _ ⟨X, z, rfl, RB.of_own o6⟩ b6⟩
    | j + 4, hj, _ => omega
  · intro f v hf hB
    have e0 : f 0 = (.agg #[.int .i64 x.k, .int .i64 x.a, .int .i64 x.b, .int .i64 x.c, .int .i64 x.d]) := hf (0, 24) (by decide)
    obtain ⟨X25, y25, e1, r1⟩ := hf (1, 25) (by decide)
    have R25 := Lib.hid r1
    clear r1
    have e2 : f 2 = (.agg #[.int .i64 y.k, .int .i64 y.a, .int .i64 y.b, .int .i64 y.c, .int .i64 y.d]) := hf (2, 26) (by decide)
    obtain ⟨X27, y27, e3, r3⟩ := hf (3, 27) (by decide)
    have R27 := Lib.hid r3
    clear r3
    simp only [List.foldl_cons, List.foldl_nil, List.drop_succ_cons, List.drop_zero, e0, e1, e2, e3]
    clear e0 e1 e2 e3 hf
    go_simp
    have B4 := Lib.hid (bthen B3.out hB)
    have q0_4 := Lib.hid (K.below hB q0_3.out)
    have LY4 : w.heap.size + 2 ≤ v.heap.size := Nat.le_trans LZ hB.size
    clear B3 q0_3 q1_3 hB
    refine wpList_append_b rfl (.tmp 25) (.tmp 27) rfl (w.heap.size + 2) (.slice X25 4 y25) x.bytes rfl (by rw [EL0.out]; exact R25.out) _ X27 4 y27 y.bytes rfl ELY.out R27.out (by rw [EL0.out, ELY.out]; omega) LY4 ?_
    intro v5 w5 o5 g5 _
    rw [EL1.out] at o5
    obtain ⟨A5, c5, rfl⟩ := own_form o5
    have O5 := Lib.hid o5
    clear o5
    have q0_5 := Lib.hid (K.kept g5 q0_4.out (fun k hk => by have := (World.ownsRow.lt R25.out k hk).1; omega))
    have B5 := Lib.hid (bgrown B4.out g5 (fun k hk => by have := (World.ownsRow.lt R25.out k hk).1; omega))
    have L5 : w.heap.size + 2 ≤ w5.heap.size := by have := g5.size; have := LY4; omega
    clear g5 B4 q0_4 R25 R27
    have hk := HK.out
    have c0 := K.cell q0_5.out 0 _ rfl
    go_wp2_with (at_builtin; (refine wpList_append_b rfl (.tmp 32) (.tmp 35) rfl (w.heap.size + 2) (.slice A5 8 c5) (x.bytes ++ y.bytes) rfl (by rw [EL1.out]; exact (O5.out.alloc (.cells #[.int .u8 0, .int .u8 p] 5))) _ _ 2 _ ([0, byteOf p]) rfl rfl (rb_lit2 w5 p hp) (Nat.le_trans (Nat.le_of_eq (congrArg (· + _) EL1.out)) (show 8 + 2 ≤ 67108864 by omega)) (by first | (simp; done) | (simp; omega)) ?_); intro v6 w6 o6 g6 _; rw [EL2.out] at o6; obtain ⟨A6, c6, rfl⟩ := own_form o6; have O6 := Lib.hid o6; clear o6; have B6 := Lib.hid (bgrown (bthen B5.out (Joins.below_alloc1 w5 _)) g6 (fun k hk => by have := (World.ownsRow.lt (O5.out.alloc (.cells #[.int .u8 0, .int .u8 p] 5)) k hk).1; omega)); have L6 : w.heap.size + 2 ≤ w6.heap.size := (by (have := g6.size; simp at this; omega)); clear g6)
    refine Calls.mono (implPut16 s _) ?_
    rintro e w7 ⟨rfl, p7, b7⟩
    have O7 := Lib.hid (own_below O6.out b7)
    have B7 := Lib.hid (bthen B6.out b7)
    have L7 : w.heap.size + 2 ≤ w7.heap.size := Nat.le_trans L6 b7.size
    have P7 := Lib.hid (RB.of_own p7)
    clear b7 p7
    go_wp2_with (at_builtin; (refine wpList_append_b rfl (.tmp 37) (.tmp 39) rfl (w.heap.size + 2) (.slice A6 10 c6) (x.bytes ++ y.bytes ++ [0, byteOf p]) rfl (by rw [EL2.out]; exact O7.out) _ _ 2 _ (put16 s) rfl rfl P7.out (Nat.le_trans (Nat.le_of_eq (congrArg (· + _) EL2.out)) (show 10 + 2 ≤ 67108864 by omega)) L7 ?_); intro v8 w8 o8 g8 _; rw [EL3.out] at o8; obtain ⟨A8, c8, rfl⟩ := own_form o8; have O8 := Lib.hid o8; clear o8; have B8 := Lib.hid (bgrown B7.out g8 (fun k hk => by have := (World.ownsRow.lt O7.out k hk).1; omega)); have L8 : w.heap.size + 2 ≤ w8.heap.size := (by (have := g8.size; omega)); clear g8)
    refine Calls.mono (implOnes A8 12 c8 _ _ (RB.of_own O8.out) EL3.out (by omega)) ?_
    rintro e w9 ⟨rfl, b9⟩
    have B9 := Lib.hid (bthen B8.out b9)
    clear b9
    clear hk c0 hp hpw
    go_wp2
    go_ret
    exact ⟨ret_int (by rw [HR.out]; simp), B9.out⟩

set_option maxHeartbeats 4000000 in
theorem psI_six (x y : Ad) (p s : Int) (w : World) (h1 : pairA x y = true) (h2 : upTo p 255 = true) (h3 : upTo s 1500 = true) (hk : ¬ x.k = 4) : Calls Try.prog 103 #[.agg #[.int .i64 x.k, .int .i64 x.a, .int .i64 x.b, .int .i64 x.c, .int .i64 x.d], .agg #[.int .i64 y.k, .int .i64 y.a, .int .i64 y.b, .int .i64 y.c, .int .i64 y.d], .int .i64 p, .int .i64 s] w fun e w' => e = .returned (.int .i64 (psSum x y p s)) ∧ Below w.heap.size w w' := by
  have hxy : (x.ok = true ∧ y.ok = true) ∧ x.k = y.k := by simpa [pairA] using h1
  have hp : 0 ≤ p ∧ p ≤ 255 := upTo_iff.1 h2
  have hpw : IntKind.u8.wrap p = p := by rw [IntKind.wrap_u8]; omega
  have EL0 := Lib.hid (show (x.bytes).length = 16 from Ad.len6 hxy.1.1 hk)
  have ELY := Lib.hid (show y.bytes.length = 16 from Ad.len6 hxy.1.2 (by rw [← hxy.2]; exact hk))
  have EL1 := Lib.hid (show (x.bytes ++ y.bytes).length = 32 by rw [List.length_append, EL0.out, ELY.out])
  have EL2 := Lib.hid (show (x.bytes ++ y.bytes ++ put32 s).length = 36 by rw [List.length_append, EL1.out]; rfl)
  have EL3 := Lib.hid (show (x.bytes ++ y.bytes ++ put32 s ++ [0, 0, 0, byteOf p]).length = 40 by rw [List.length_append, EL2.out]; rfl)
  have HR := Lib.hid (show psSum x y p s = onesSum (x.bytes ++ y.bytes ++ put32 s ++ [0, 0, 0, byteOf p]) by rw [psSum_yes (by simp [h1, h2, h3])]; simp [psBytes, hk])
  have H1 := Lib.hid h1
  have H2 := Lib.hid h2
  have H3 := Lib.hid h3
  have HK := Lib.hid hk
  clear h1 h2 h3 hk hxy
  have q0 : Hid (((w.alloc (.cells #[.int .i64 x.k, .int .i64 x.a, .int .i64 x.b, .int .i64 x.c, .int .i64 x.d] 27)).alloc (.cells #[.int .i64 y.k, .int .i64 y.a, .int .i64 y.b, .int .i64 y.c, .int .i64 y.d] 27)).heap[w.heap.size]? = some (.cells #[.int .i64 x.k, .int .i64 x.a, .int .i64 x.b, .int .i64 x.c, .int .i64 x.d] 27)) := Lib.hid (by repeat (first | exact K.newAt (by first | rfl | (simp; done)) | refine K.oldAt (by first | (simp; done) | (simp; omega)) ?_))
  have q1 : Hid (((w.alloc (.cells #[.int .i64 x.k, .int .i64 x.a, .int .i64 x.b, .int .i64 x.c, .int .i64 x.d] 27)).alloc (.cells #[.int .i64 y.k, .int .i64 y.a, .int .i64 y.b, .int .i64 y.c, .int .i64 y.d] 27)).heap[w.heap.size + 1]? = some (.cells #[.int .i64 y.k, .int .i64 y.a, .int .i64 y.b, .int .i64 y.c, .int .i64 y.d] 27)) := Lib.hid (by repeat (first | exact K.newAt (by first | rfl | (simp; done)) | refine K.oldAt (by first | (simp; done) | (simp; omega)) ?_))
  go_enter Try.func103, Try.ntmps103
  go_wp2_with (first | (with_reducible refine loadA rfl _ rfl w.heap.size rfl q0.out ?_) | (with_reducible refine loadA rfl _ rfl (w.heap.size + 1) rfl q1.out ?_))
  refine Calls.mono (pairIB x y true H1.out _) ?_
  rintro e w1 ⟨rfl, b1⟩
  have B1 := Lib.hid (bthen (Joins.below_alloc2 w _ _) b1)
  have q0_1 := Lib.hid (K.below b1 q0.out)
  have q1_1 := Lib.hid (K.below b1 q1.out)
  clear b1
  go_wp2_with fail
  refine Calls.mono (protoB p true _ H2.out) ?_
  rintro e w2 ⟨rfl, b2⟩
  have B2 := Lib.hid (bthen B1.out b2)
  have q0_2 := Lib.hid (K.below b2 q0_1.out)
  have q1_2 := Lib.hid (K.below b2 q1_1.out)
  clear b2
  go_wp2_with fail
  refine Calls.mono (withinU s 1500 true _ H3.out) ?_
  rintro e w3 ⟨rfl, b3⟩
  have B3 := Lib.hid (bthen B2.out b3)
  have q0_3 := Lib.hid (K.below b3 q0_2.out)
  have q1_3 := Lib.hid (K.below b3 q1_2.out)
  clear b3
  clear q0 q1 q0_1 q1_1 q0_2 q1_2 B1 B2
  have LZ : w.heap.size + 2 ≤ w3.heap.size := by have := K.lt q1_3.out; omega
  go_wp2_with fail
  refine wp_region_owns (by kernel_rfl) 4 52 [(0, 24), (1, 25), (2, 26), (3, 27)] _ ([.val (.agg #[.int .i64 x.k, .int .i64 x.a, .int .i64 x.b, .int .i64 x.c, .int .i64 x.d]), .own (w.heap.size + 2) 16 x.bytes, .val (.agg #[.int .i64 y.k, .int .i64 y.a, .int .i64 y.b, .int .i64 y.c, .int .i64 y.d]), .rb 16 y.bytes]) (by kernel_rfl) (by kernel_rfl) rfl rfl ?_ ?_
  · intro j o hj ho a' v K' hx hnd hB hK
    match j, hj, ho with
    | 0, _, ho =>
      obtain rfl := Option.some.inj ho
      have h0 : a'.eval (.tmp 4) = .pointer (some ⟨w.heap.size, 0, none⟩) := (hx 4 (by decide)).trans rfl
      exact wp_load_row 27 _ rfl w.heap.size h0 _ _ (0, 0) _ (K.below hB q0_3.out) Try.underlying27 rfl info_addrP (hK _ _ rfl (Below.refl _ _))
    | 1, _, ho =>
      obtain rfl := Option.some.inj ho
      have h0 : a'.eval (.tmp 24) = .agg #[.int .i64 x.k, .int .i64 x.a, .int .i64 x.b, .int .i64 x.c, .int .i64 x.d] := (owns_of hnd 0 24 (by kernel_rfl) :)
      refine u_addrBytesI _ _ _ rfl h0 (Calls.mono (bytesNI x 16 EL0.out v) ?_)
      rintro e' v' ⟨X, y, rfl, o6, b6⟩
      exact ⟨_, rfl, hK _ _ ⟨X, y, rfl, own_base o6 (Nat.le_trans LZ hB.size)⟩ b6⟩
    | 2, _, ho =>
      obtain rfl := Option.some.inj ho
      have h0 : a'.eval (.tmp 5) = .pointer (some ⟨w.heap.size + 1, 0, none⟩) := (hx 5 (by decide)).trans rfl
      exact wp_load_row 27 _ rfl (w.heap.size + 1) h0 _ _ (0, 0) _ (K.below hB q1_3.out) Try.underlying27 rfl info_addrP (hK _ _ rfl (Below.refl _ _))
    | 3, _, ho =>
      obtain rfl := Option.some.inj ho
      have h0 : a'.eval (.tmp 26) = .agg #[.int .i64 y.k, .int .i64 y.a, .int .i64 y.b, .int .i64 y.c, .int .i64 y.d] := (owns_of hnd 2 26 (by kernel_rfl) :)
      refine u_addrBytesI _ _ _ rfl h0 (Calls.mono (bytesNI y 16 ELY.out v) ?_)
      rintro e' v' ⟨X, z, rfl, o6, b6⟩
      exact ⟨_, rfl, hK _ _ ⟨X, z, rfl, RB.of_own o6⟩ b6⟩
    | j + 4, hj, _ => omega
  · intro f v hf hB
    have e0 : f 0 = (.agg #[.int .i64 x.k, .int .i64 x.a, .int .i64 x.b, .int .i64 x.c, .int .i64 x.d]) := hf (0, 24) (by decide)
    obtain ⟨X25, y25, e1, r1⟩ := hf (1, 25) (by decide)
    have R25 := Lib.hid r1
    clear r1
    have e2 : f 2 = (.agg #[.int .i64 y.k, .int .i64 y.a, .int .i64 y.b, .int .i64 y.c, .int .i64 y.d]) := hf (2, 26) (by decide)
    obtain ⟨X27, y27, e3, r3⟩ := hf (3, 27) (by decide)
    have R27 := Lib.hid r3
    clear r3
    simp only [List.foldl_cons, List.foldl_nil, List.drop_succ_cons, List.drop_zero, e0, e1, e2, e3]
    clear e0 e1 e2 e3 hf
    go_simp
    have B4 := Lib.hid (bthen B3.out hB)
    have q0_4 := Lib.hid (K.below hB q0_3.out)
    have LY4 : w.heap.size + 2 ≤ v.heap.size := Nat.le_trans LZ hB.size
    clear B3 q0_3 q1_3 hB
    refine wpList_append_b rfl (.tmp 25) (.tmp 27) rfl (w.heap.size + 2) (.slice X25 16 y25) x.bytes rfl (by rw [EL0.out]; exact R25.out) _ X27 16 y27 y.bytes rfl ELY.out R27.out (by rw [EL0.out, ELY.out]; omega) LY4 ?_
    intro v5 w5 o5 g5 _
    rw [EL1.out] at o5
    obtain ⟨A5, c5, rfl⟩ := own_form o5
    have O5 := Lib.hid o5
    clear o5
    have q0_5 := Lib.hid (K.kept g5 q0_4.out (fun k hk => by have := (World.ownsRow.lt R25.out k hk).1; omega))
    have B5 := Lib.hid (bgrown B4.out g5 (fun k hk => by have := (World.ownsRow.lt R25.out k hk).1; omega))
    have L5 : w.heap.size + 2 ≤ w5.heap.size := by have := g5.size; have := LY4; omega
    clear g5 B4 q0_4 R25 R27
    have hk := HK.out
    have c0 := K.cell q0_5.out 0 _ rfl
    go_wp2_with fail
    refine Calls.mono (implPut32 s _) ?_
    rintro e w6 ⟨rfl, p6, b6⟩
    have O6 := Lib.hid (own_below O5.out b6)
    have B6 := Lib.hid (bthen B5.out b6)
    have L6 : w.heap.size + 2 ≤ w6.heap.size := Nat.le_trans L5 b6.size
    have P6 := Lib.hid (RB.of_own p6)
    clear b6 p6
    go_wp2_with (first | (at_builtin; (refine wpList_append_b rfl (.tmp 42) (.tmp 44) rfl (w.heap.size + 2) (.slice A5 32 c5) (x.bytes ++ y.bytes) rfl (by rw [EL1.out]; exact O6.out) _ _ 4 _ (put32 s) rfl rfl P6.out (Nat.le_trans (Nat.le_of_eq (congrArg (· + _) EL1.out)) (show 32 + 4 ≤ 67108864 by omega)) L6 ?_); intro v7 w7 o7 g7 _; rw [EL2.out] at o7; obtain ⟨A7, c7, rfl⟩ := own_form o7; have O7 := Lib.hid o7; clear o7; have B7 := Lib.hid (bgrown B6.out g7 (fun k hk => by have := (World.ownsRow.lt O6.out k hk).1; omega)); have L7 : w.heap.size + 2 ≤ w7.heap.size := (by (have := g7.size; omega)); clear g7) | (at_builtin; (refine wpList_append_b rfl (.tmp 46) (.tmp 49) rfl (w.heap.size + 2) (.slice A7 36 c7) (x.bytes ++ y.bytes ++ put32 s) rfl (by rw [EL2.out]; exact (O7.out.alloc (.cells #[.int .u8 0, .int .u8 0, .int .u8 0, .int .u8 p] 5))) _ _ 4 _ ([0, 0, 0, byteOf p]) rfl rfl (rb_lit4 w7 p hp) (Nat.le_trans (Nat.le_of_eq (congrArg (· + _) EL2.out)) (show 36 + 4 ≤ 67108864 by omega)) (by first | (simp; done) | (simp; omega)) ?_); intro v8 w8 o8 g8 _; rw [EL3.out] at o8; obtain ⟨A8, c8, rfl⟩ := own_form o8; have O8 := Lib.hid o8; clear o8; have B8 := Lib.hid (bgrown (bthen B7.out (Joins.below_alloc1 w7 _)) g8 (fun k hk => by have := (World.ownsRow.lt (O7.out.alloc (.cells #[.int .u8 0, .int .u8 0, .int .u8 0, .int .u8 p] 5)) k hk).1; omega)); have L8 : w.heap.size + 2 ≤ w8.heap.size := (by (have := g8.size; simp at this; omega)); clear g8))
    refine Calls.mono (implOnes A8 40 c8 _ _ (RB.of_own O8.out) EL3.out (by omega)) ?_
    rintro e w9 ⟨rfl, b9⟩
    have B9 := Lib.hid (bthen B8.out b9)
    clear b9
    clear hk c0 hp hpw
    go_wp2
    go_ret
    exact ⟨ret_int (by rw [HR.out]; simp), B9.out⟩

theorem psI (x y : Ad) (p s : Int) (w : World) : Calls Try.prog 103 #[.agg #[.int .i64 x.k, .int .i64 x.a, .int .i64 x.b, .int .i64 x.c, .int .i64 x.d], .agg #[.int .i64 y.k, .int .i64 y.a, .int .i64 y.b, .int .i64 y.c, .int .i64 y.d], .int .i64 p, .int .i64 s] w fun e w' => e = .returned (.int .i64 (psSum x y p s)) ∧ Below w.heap.size w w' := by
  cases h1 : pairA x y with
  | false => exact psI_no1 x y p s w h1
  | true =>
    cases h2 : upTo p 255 with
    | false => exact psI_no2 x y p s w h1 h2
    | true =>
      cases h3 : upTo s 1500 with
      | false => exact psI_no3 x y p s w h1 h2 h3
      | true =>
        by_cases hk : x.k = 4
        · exact psI_four x y p s w h1 h2 h3 hk
        · exact psI_six x y p s w h1 h2 h3 hk

set_option maxHeartbeats 1000000 in
theorem psS_no1 (x y : Ad) (p s : Int) (w : World) (h1 : pairA x y = false) : Calls Try.prog 60 #[.agg #[.int .i64 x.k, .int .i64 x.a, .int .i64 x.b, .int .i64 x.c, .int .i64 x.d], .agg #[.int .i64 y.k, .int .i64 y.a, .int .i64 y.b, .int .i64 y.c, .int .i64 y.d], .int .i64 p, .int .i64 s] w fun e w' => e = .returned (.int .i64 (psSum x y p s)) ∧ Below w.heap.size w w' := by
  have HR := Lib.hid (psSum_no (x := x) (y := y) (p := p) (s := s) (by simp [*]))
  have H1 := Lib.hid h1
  clear h1
  have q0 : Hid (((w.alloc (.cells #[.int .i64 x.k, .int .i64 x.a, .int .i64 x.b, .int .i64 x.c, .int .i64 x.d] 27)).alloc (.cells #[.int .i64 y.k, .int .i64 y.a, .int .i64 y.b, .int .i64 y.c, .int .i64 y.d] 27)).heap[w.heap.size]? = some (.cells #[.int .i64 x.k, .int .i64 x.a, .int .i64 x.b, .int .i64 x.c, .int .i64 x.d] 27)) := Lib.hid (by repeat (first | exact K.newAt (by first | rfl | (simp; done)) | refine K.oldAt (by first | (simp; done) | (simp; omega)) ?_))
  have q1 : Hid (((w.alloc (.cells #[.int .i64 x.k, .int .i64 x.a, .int .i64 x.b, .int .i64 x.c, .int .i64 x.d] 27)).alloc (.cells #[.int .i64 y.k, .int .i64 y.a, .int .i64 y.b, .int .i64 y.c, .int .i64 y.d] 27)).heap[w.heap.size + 1]? = some (.cells #[.int .i64 y.k, .int .i64 y.a, .int .i64 y.b, .int .i64 y.c, .int .i64 y.d] 27)) := Lib.hid (by repeat (first | exact K.newAt (by first | rfl | (simp; done)) | refine K.oldAt (by first | (simp; done) | (simp; omega)) ?_))
  go_enter Try.func60, Try.ntmps60
  go_wp2_with (first | (with_reducible refine loadA rfl _ rfl w.heap.size rfl q0.out ?_) | (with_reducible refine loadA rfl _ rfl (w.heap.size + 1) rfl q1.out ?_))
  refine Calls.mono (pairSB x y false H1.out _) ?_
  rintro e w1 ⟨rfl, b1⟩
  have B1 := Lib.hid (bthen (Joins.below_alloc2 w _ _) b1)
  clear b1
  go_wp2
  go_ret
  exact ⟨ret_int HR.out.symm, B1.out⟩

set_option maxHeartbeats 1000000 in
theorem psS_no2 (x y : Ad) (p s : Int) (w : World) (h1 : pairA x y = true) (h2 : upTo p 255 = false) : Calls Try.prog 60 #[.agg #[.int .i64 x.k, .int .i64 x.a, .int .i64 x.b, .int .i64 x.c, .int .i64 x.d], .agg #[.int .i64 y.k, .int .i64 y.a, .int .i64 y.b, .int .i64 y.c, .int .i64 y.d], .int .i64 p, .int .i64 s] w fun e w' => e = .returned (.int .i64 (psSum x y p s)) ∧ Below w.heap.size w w' := by
  have HR := Lib.hid (psSum_no (x := x) (y := y) (p := p) (s := s) (by simp [*]))
  have H1 := Lib.hid h1
  have H2 := Lib.hid h2
  clear h1 h2
  have q0 : Hid (((w.alloc (.cells #[.int .i64 x.k, .int .i64 x.a, .int .i64 x.b, .int .i64 x.c, .int .i64 x.d] 27)).alloc (.cells #[.int .i64 y.k, .int .i64 y.a, .int .i64 y.b, .int .i64 y.c, .int .i64 y.d] 27)).heap[w.heap.size]? = some (.cells #[.int .i64 x.k, .int .i64 x.a, .int .i64 x.b, .int .i64 x.c, .int .i64 x.d] 27)) := Lib.hid (by repeat (first | exact K.newAt (by first | rfl | (simp; done)) | refine K.oldAt (by first | (simp; done) | (simp; omega)) ?_))
  have q1 : Hid (((w.alloc (.cells #[.int .i64 x.k, .int .i64 x.a, .int .i64 x.b, .int .i64 x.c, .int .i64 x.d] 27)).alloc (.cells #[.int .i64 y.k, .int .i64 y.a, .int .i64 y.b, .int .i64 y.c, .int .i64 y.d] 27)).heap[w.heap.size + 1]? = some (.cells #[.int .i64 y.k, .int .i64 y.a, .int .i64 y.b, .int .i64 y.c, .int .i64 y.d] 27)) := Lib.hid (by repeat (first | exact K.newAt (by first | rfl | (simp; done)) | refine K.oldAt (by first | (simp; done) | (simp; omega)) ?_))
  go_enter Try.func60, Try.ntmps60
  go_wp2_with (first | (with_reducible refine loadA rfl _ rfl w.heap.size rfl q0.out ?_) | (with_reducible refine loadA rfl _ rfl (w.heap.size + 1) rfl q1.out ?_))
  refine Calls.mono (pairSB x y true H1.out _) ?_
  rintro e w1 ⟨rfl, b1⟩
  have B1 := Lib.hid (bthen (Joins.below_alloc2 w _ _) b1)
  clear b1
  go_wp2_with fail
  refine Calls.mono (inSB p 255 false _ H2.out) ?_
  rintro e w2 ⟨rfl, b2⟩
  have B2 := Lib.hid (bthen B1.out b2)
  clear b2
  go_wp2
  go_ret
  exact ⟨ret_int HR.out.symm, B2.out⟩

set_option maxHeartbeats 1000000 in
theorem psS_no3 (x y : Ad) (p s : Int) (w : World) (h1 : pairA x y = true) (h2 : upTo p 255 = true) (h3 : upTo s 1500 = false) : Calls Try.prog 60 #[.agg #[.int .i64 x.k, .int .i64 x.a, .int .i64 x.b, .int .i64 x.c, .int .i64 x.d], .agg #[.int .i64 y.k, .int .i64 y.a, .int .i64 y.b, .int .i64 y.c, .int .i64 y.d], .int .i64 p, .int .i64 s] w fun e w' => e = .returned (.int .i64 (psSum x y p s)) ∧ Below w.heap.size w w' := by
  have HR := Lib.hid (psSum_no (x := x) (y := y) (p := p) (s := s) (by simp [*]))
  have H1 := Lib.hid h1
  have H2 := Lib.hid h2
  have H3 := Lib.hid h3
  clear h1 h2 h3
  have q0 : Hid (((w.alloc (.cells #[.int .i64 x.k, .int .i64 x.a, .int .i64 x.b, .int .i64 x.c, .int .i64 x.d] 27)).alloc (.cells #[.int .i64 y.k, .int .i64 y.a, .int .i64 y.b, .int .i64 y.c, .int .i64 y.d] 27)).heap[w.heap.size]? = some (.cells #[.int .i64 x.k, .int .i64 x.a, .int .i64 x.b, .int .i64 x.c, .int .i64 x.d] 27)) := Lib.hid (by repeat (first | exact K.newAt (by first | rfl | (simp; done)) | refine K.oldAt (by first | (simp; done) | (simp; omega)) ?_))
  have q1 : Hid (((w.alloc (.cells #[.int .i64 x.k, .int .i64 x.a, .int .i64 x.b, .int .i64 x.c, .int .i64 x.d] 27)).alloc (.cells #[.int .i64 y.k, .int .i64 y.a, .int .i64 y.b, .int .i64 y.c, .int .i64 y.d] 27)).heap[w.heap.size + 1]? = some (.cells #[.int .i64 y.k, .int .i64 y.a, .int .i64 y.b, .int .i64 y.c, .int .i64 y.d] 27)) := Lib.hid (by repeat (first | exact K.newAt (by first | rfl | (simp; done)) | refine K.oldAt (by first | (simp; done) | (simp; omega)) ?_))
  go_enter Try.func60, Try.ntmps60
  go_wp2_with (first | (with_reducible refine loadA rfl _ rfl w.heap.size rfl q0.out ?_) | (with_reducible refine loadA rfl _ rfl (w.heap.size + 1) rfl q1.out ?_))
  refine Calls.mono (pairSB x y true H1.out _) ?_
  rintro e w1 ⟨rfl, b1⟩
  have B1 := Lib.hid (bthen (Joins.below_alloc2 w _ _) b1)
  clear b1
  go_wp2_with fail
  refine Calls.mono (inSB p 255 true _ H2.out) ?_
  rintro e w2 ⟨rfl, b2⟩
  have B2 := Lib.hid (bthen B1.out b2)
  clear b2
  go_wp2_with fail
  refine Calls.mono (inSB s 1500 false _ H3.out) ?_
  rintro e w3 ⟨rfl, b3⟩
  have B3 := Lib.hid (bthen B2.out b3)
  clear b3
  go_wp2
  go_ret
  exact ⟨ret_int HR.out.symm, B3.out⟩

set_option maxHeartbeats 4000000 in
theorem psS_four (x y : Ad) (p s : Int) (w : World) (h1 : pairA x y = true) (h2 : upTo p 255 = true) (h3 : upTo s 1500 = true) (hk : x.k = 4) : Calls Try.prog 60 #[.agg #[.int .i64 x.k, .int .i64 x.a, .int .i64 x.b, .int .i64 x.c, .int .i64 x.d], .agg #[.int .i64 y.k, .int .i64 y.a, .int .i64 y.b, .int .i64 y.c, .int .i64 y.d], .int .i64 p, .int .i64 s] w fun e w' => e = .returned (.int .i64 (psSum x y p s)) ∧ Below w.heap.size w w' := by
  have hxy : (x.ok = true ∧ y.ok = true) ∧ x.k = y.k := by simpa [pairA] using h1
  have hp : 0 ≤ p ∧ p ≤ 255 := upTo_iff.1 h2
  have hpw : IntKind.u8.wrap p = p := by rw [IntKind.wrap_u8]; omega
  have EL0 := Lib.hid (show (x.bytes).length = 4 from Ad.len4 hxy.1.1 hk)
  have ELY := Lib.hid (show y.bytes.length = 4 from Ad.len4 hxy.1.2 (by rw [← hxy.2]; exact hk))
  have EL1 := Lib.hid (show (x.bytes ++ y.bytes).length = 8 by rw [List.length_append, EL0.out, ELY.out])
  have EL2 := Lib.hid (show (x.bytes ++ y.bytes ++ [0, byteOf p]).length = 10 by rw [List.length_append, EL1.out]; rfl)
  have EL3 := Lib.hid (show (x.bytes ++ y.bytes ++ [0, byteOf p] ++ put16 s).length = 12 by rw [List.length_append, EL2.out]; rfl)
  have HR := Lib.hid (show psSum x y p s = onesSum (x.bytes ++ y.bytes ++ [0, byteOf p] ++ put16 s) by rw [psSum_yes (by simp [h1, h2, h3])]; simp [psBytes, hk])
  have H1 := Lib.hid h1
  have H2 := Lib.hid h2
  have H3 := Lib.hid h3
  have HK := Lib.hid hk
  clear h1 h2 h3 hk hxy
  have q0 : Hid (((w.alloc (.cells #[.int .i64 x.k, .int .i64 x.a, .int .i64 x.b, .int .i64 x.c, .int .i64 x.d] 27)).alloc (.cells #[.int .i64 y.k, .int .i64 y.a, .int .i64 y.b, .int .i64 y.c, .int .i64 y.d] 27)).heap[w.heap.size]? = some (.cells #[.int .i64 x.k, .int .i64 x.a, .int .i64 x.b, .int .i64 x.c, .int .i64 x.d] 27)) := Lib.hid (by repeat (first | exact K.newAt (by first | rfl | (simp; done)) | refine K.oldAt (by first | (simp; done) | (simp; omega)) ?_))
  have q1 : Hid (((w.alloc (.cells #[.int .i64 x.k, .int .i64 x.a, .int .i64 x.b, .int .i64 x.c, .int .i64 x.d] 27)).alloc (.cells #[.int .i64 y.k, .int .i64 y.a, .int .i64 y.b, .int .i64 y.c, .int .i64 y.d] 27)).heap[w.heap.size + 1]? = some (.cells #[.int .i64 y.k, .int .i64 y.a, .int .i64 y.b, .int .i64 y.c, .int .i64 y.d] 27)) := Lib.hid (by repeat (first | exact K.newAt (by first | rfl | (simp; done)) | refine K.oldAt (by first | (simp; done) | (simp; omega)) ?_))
  go_enter Try.func60, Try.ntmps60
  go_wp2_with (first | (with_reducible refine loadA rfl _ rfl w.heap.size rfl q0.out ?_) | (with_reducible refine loadA rfl _ rfl (w.heap.size + 1) rfl q1.out ?_))
  refine Calls.mono (pairSB x y true H1.out _) ?_
  rintro e w1 ⟨rfl, b1⟩
  have B1 := Lib.hid (bthen (Joins.below_alloc2 w _ _) b1)
  have q0_1 := Lib.hid (K.below b1 q0.out)
  have q1_1 := Lib.hid (K.below b1 q1.out)
  clear b1
  go_wp2_with fail
  refine Calls.mono (inSB p 255 true _ H2.out) ?_
  rintro e w2 ⟨rfl, b2⟩
  have B2 := Lib.hid (bthen B1.out b2)
  have q0_2 := Lib.hid (K.below b2 q0_1.out)
  have q1_2 := Lib.hid (K.below b2 q1_1.out)
  clear b2
  go_wp2_with fail
  refine Calls.mono (inSB s 1500 true _ H3.out) ?_
  rintro e w3 ⟨rfl, b3⟩
  have B3 := Lib.hid (bthen B2.out b3)
  have q0_3 := Lib.hid (K.below b3 q0_2.out)
  have q1_3 := Lib.hid (K.below b3 q1_2.out)
  clear b3
  clear q0 q1 q0_1 q1_1 q0_2 q1_2 B1 B2
  have LZ : w.heap.size + 2 ≤ w3.heap.size := by have := K.lt q1_3.out; omega
  go_wp2_with fail
  refine wp_region_owns (by kernel_rfl) 4 52 [(0, 24), (1, 25), (2, 26), (3, 27)] _ ([.val (.agg #[.int .i64 x.k, .int .i64 x.a, .int .i64 x.b, .int .i64 x.c, .int .i64 x.d]), .own (w.heap.size + 2) 4 x.bytes, .val (.agg #[.int .i64 y.k, .int .i64 y.a, .int .i64 y.b, .int .i64 y.c, .int .i64 y.d]), .rb 4 y.bytes]) (by kernel_rfl) (by kernel_rfl) rfl rfl ?_ ?_
  · intro j o hj ho a' v K' hx hnd hB hK
    match j, hj, ho with
    | 0, _, ho =>
      obtain rfl := Option.some.inj ho
      have h0 : a'.eval (.tmp 4) = .pointer (some ⟨w.heap.size, 0, none⟩) := (hx 4 (by decide)).trans rfl
      exact wp_load_row 27 _ rfl w.heap.size h0 _ _ (0, 0) _ (K.below hB q0_3.out) Try.underlying27 rfl info_addrP (hK _ _ rfl (Below.refl _ _))
    | 1, _, ho =>
      obtain rfl := Option.some.inj ho
      have h0 : a'.eval (.tmp 24) = .agg #[.int .i64 x.k, .int .i64 x.a, .int .i64 x.b, .int .i64 x.c, .int .i64 x.d] := (owns_of hnd 0 24 (by kernel_rfl) :)
      refine u_addrBytesS _ _ _ rfl h0 (Calls.mono (bytesNS x 4 EL0.out v) ?_)
      rintro e' v' ⟨X, y, rfl, o6, b6⟩
      exact ⟨_, rfl, hK _ _ ⟨X, y, rfl, own_base o6 (Nat.le_trans LZ hB.size)⟩ b6⟩
    | 2, _, ho =>
      obtain rfl := Option.some.inj ho
      have h0 : a'.eval (.tmp 5) = .pointer (some ⟨w.heap.size + 1, 0, none⟩) := (hx 5 (by decide)).trans rfl
      exact wp_load_row 27 _ rfl (w.heap.size + 1) h0 _ _ (0, 0) _ (K.below hB q1_3.out) Try.underlying27 rfl info_addrP (hK _ _ rfl (Below.refl _ _))
    | 3, _, ho =>
      obtain rfl := Option.some.inj ho
      have h0 : a'.eval (.tmp 26) = .agg #[.int .i64 y.k, .int .i64 y.a, .int .i64 y.b, .int .i64 y.c, .int .i64 y.d] := (owns_of hnd 2 26 (by kernel_rfl) :)
      refine u_addrBytesS _ _ _ rfl h0 (Calls.mono (bytesNS y 4 ELY.out v) ?_)
      rintro e' v' ⟨X, z, rfl, o6, b6⟩
      exact ⟨_, rfl, hK _ _ ⟨X, z, rfl, RB.of_own o6⟩ b6⟩
    | j + 4, hj, _ => omega
  · intro f v hf hB
    have e0 : f 0 = (.agg #[.int .i64 x.k, .int .i64 x.a, .int .i64 x.b, .int .i64 x.c, .int .i64 x.d]) := hf (0, 24) (by decide)
    obtain ⟨X25, y25, e1, r1⟩ := hf (1, 25) (by decide)
    have R25 := Lib.hid r1
    clear r1
    have e2 : f 2 = (.agg #[.int .i64 y.k, .int .i64 y.a, .int .i64 y.b, .int .i64 y.c, .int .i64 y.d]) := hf (2, 26) (by decide)
    obtain ⟨X27, y27, e3, r3⟩ := hf (3, 27) (by decide)
    have R27 := Lib.hid r3
    clear r3
    simp only [List.foldl_cons, List.foldl_nil, List.drop_succ_cons, List.drop_zero, e0, e1, e2, e3]
    clear e0 e1 e2 e3 hf
    go_simp
    have B4 := Lib.hid (bthen B3.out hB)
    have q0_4 := Lib.hid (K.below hB q0_3.out)
    have LY4 : w.heap.size + 2 ≤ v.heap.size := Nat.le_trans LZ hB.size
    clear B3 q0_3 q1_3 hB
    refine wpList_append_b rfl (.tmp 25) (.tmp 27) rfl (w.heap.size + 2) (.slice X25 4 y25) x.bytes rfl (by rw [EL0.out]; exact R25.out) _ X27 4 y27 y.bytes rfl ELY.out R27.out (by rw [EL0.out, ELY.out]; omega) LY4 ?_
    intro v5 w5 o5 g5 _
    rw [EL1.out] at o5
    obtain ⟨A5, c5, rfl⟩ := own_form o5
    have O5 := Lib.hid o5
    clear o5
    have q0_5 := Lib.hid (K.kept g5 q0_4.out (fun k hk => by have := (World.ownsRow.lt R25.out k hk).1; omega))
    have B5 := Lib.hid (bgrown B4.out g5 (fun k hk => by have := (World.ownsRow.lt R25.out k hk).1; omega))
    have L5 : w.heap.size + 2 ≤ w5.heap.size := by have := g5.size; have := LY4; omega
    clear g5 B4 q0_4 R25 R27
    have hk := HK.out
    have c0 := K.cell q0_5.out 0 _ rfl
    go_wp2_with (at_builtin; (refine wpList_append_b rfl (.tmp 32) (.tmp 35) rfl (w.heap.size + 2) (.slice A5 8 c5) (x.bytes ++ y.bytes) rfl (by rw [EL1.out]; exact (O5.out.alloc (.cells #[.int .u8 0, .int .u8 p] 5))) _ _ 2 _ ([0, byteOf p]) rfl rfl (rb_lit2 w5 p hp) (Nat.le_trans (Nat.le_of_eq (congrArg (· + _) EL1.out)) (show 8 + 2 ≤ 67108864 by omega)) (by first | (simp; done) | (simp; omega)) ?_); intro v6 w6 o6 g6 _; rw [EL2.out] at o6; obtain ⟨A6, c6, rfl⟩ := own_form o6; have O6 := Lib.hid o6; clear o6; have B6 := Lib.hid (bgrown (bthen B5.out (Joins.below_alloc1 w5 _)) g6 (fun k hk => by have := (World.ownsRow.lt (O5.out.alloc (.cells #[.int .u8 0, .int .u8 p] 5)) k hk).1; omega)); have L6 : w.heap.size + 2 ≤ w6.heap.size := (by (have := g6.size; simp at this; omega)); clear g6)
    refine Calls.mono (put16S s _) ?_
    rintro e w7 ⟨X7, y7, rfl, p7, b7⟩
    have O7 := Lib.hid (own_below O6.out b7)
    have B7 := Lib.hid (bthen B6.out b7)
    have L7 : w.heap.size + 2 ≤ w7.heap.size := Nat.le_trans L6 b7.size
    have P7 := Lib.hid (RB.of_own p7)
    clear b7 p7
    go_wp2_with (at_builtin; (refine wpList_append_b rfl (.tmp 37) (.tmp 39) rfl (w.heap.size + 2) (.slice A6 10 c6) (x.bytes ++ y.bytes ++ [0, byteOf p]) rfl (by rw [EL2.out]; exact O7.out) _ _ 2 _ (put16 s) rfl rfl P7.out (Nat.le_trans (Nat.le_of_eq (congrArg (· + _) EL2.out)) (show 10 + 2 ≤ 67108864 by omega)) L7 ?_); intro v8 w8 o8 g8 _; rw [EL3.out] at o8; obtain ⟨A8, c8, rfl⟩ := own_form o8; have O8 := Lib.hid o8; clear o8; have B8 := Lib.hid (bgrown B7.out g8 (fun k hk => by have := (World.ownsRow.lt O7.out k hk).1; omega)); have L8 : w.heap.size + 2 ≤ w8.heap.size := (by (have := g8.size; omega)); clear g8)
    refine Calls.mono (specOnes A8 12 c8 _ _ (RB.of_own O8.out) EL3.out (by omega)) ?_
    rintro e w9 ⟨rfl, rfl⟩
    have B9 := B8
    clear hk c0 hp hpw
    go_wp2
    go_ret
    exact ⟨ret_int (by rw [HR.out]; simp), B9.out⟩

set_option maxHeartbeats 4000000 in
theorem psS_six (x y : Ad) (p s : Int) (w : World) (h1 : pairA x y = true) (h2 : upTo p 255 = true) (h3 : upTo s 1500 = true) (hk : ¬ x.k = 4) : Calls Try.prog 60 #[.agg #[.int .i64 x.k, .int .i64 x.a, .int .i64 x.b, .int .i64 x.c, .int .i64 x.d], .agg #[.int .i64 y.k, .int .i64 y.a, .int .i64 y.b, .int .i64 y.c, .int .i64 y.d], .int .i64 p, .int .i64 s] w fun e w' => e = .returned (.int .i64 (psSum x y p s)) ∧ Below w.heap.size w w' := by
  have hxy : (x.ok = true ∧ y.ok = true) ∧ x.k = y.k := by simpa [pairA] using h1
  have hp : 0 ≤ p ∧ p ≤ 255 := upTo_iff.1 h2
  have hpw : IntKind.u8.wrap p = p := by rw [IntKind.wrap_u8]; omega
  have EL0 := Lib.hid (show (x.bytes).length = 16 from Ad.len6 hxy.1.1 hk)
  have ELY := Lib.hid (show y.bytes.length = 16 from Ad.len6 hxy.1.2 (by rw [← hxy.2]; exact hk))
  have EL1 := Lib.hid (show (x.bytes ++ y.bytes).length = 32 by rw [List.length_append, EL0.out, ELY.out])
  have EL2 := Lib.hid (show (x.bytes ++ y.bytes ++ put32 s).length = 36 by rw [List.length_append, EL1.out]; rfl)
  have EL3 := Lib.hid (show (x.bytes ++ y.bytes ++ put32 s ++ [0, 0, 0, byteOf p]).length = 40 by rw [List.length_append, EL2.out]; rfl)
  have HR := Lib.hid (show psSum x y p s = onesSum (x.bytes ++ y.bytes ++ put32 s ++ [0, 0, 0, byteOf p]) by rw [psSum_yes (by simp [h1, h2, h3])]; simp [psBytes, hk])
  have H1 := Lib.hid h1
  have H2 := Lib.hid h2
  have H3 := Lib.hid h3
  have HK := Lib.hid hk
  clear h1 h2 h3 hk hxy
  have q0 : Hid (((w.alloc (.cells #[.int .i64 x.k, .int .i64 x.a, .int .i64 x.b, .int .i64 x.c, .int .i64 x.d] 27)).alloc (.cells #[.int .i64 y.k, .int .i64 y.a, .int .i64 y.b, .int .i64 y.c, .int .i64 y.d] 27)).heap[w.heap.size]? = some (.cells #[.int .i64 x.k, .int .i64 x.a, .int .i64 x.b, .int .i64 x.c, .int .i64 x.d] 27)) := Lib.hid (by repeat (first | exact K.newAt (by first | rfl | (simp; done)) | refine K.oldAt (by first | (simp; done) | (simp; omega)) ?_))
  have q1 : Hid (((w.alloc (.cells #[.int .i64 x.k, .int .i64 x.a, .int .i64 x.b, .int .i64 x.c, .int .i64 x.d] 27)).alloc (.cells #[.int .i64 y.k, .int .i64 y.a, .int .i64 y.b, .int .i64 y.c, .int .i64 y.d] 27)).heap[w.heap.size + 1]? = some (.cells #[.int .i64 y.k, .int .i64 y.a, .int .i64 y.b, .int .i64 y.c, .int .i64 y.d] 27)) := Lib.hid (by repeat (first | exact K.newAt (by first | rfl | (simp; done)) | refine K.oldAt (by first | (simp; done) | (simp; omega)) ?_))
  go_enter Try.func60, Try.ntmps60
  go_wp2_with (first | (with_reducible refine loadA rfl _ rfl w.heap.size rfl q0.out ?_) | (with_reducible refine loadA rfl _ rfl (w.heap.size + 1) rfl q1.out ?_))
  refine Calls.mono (pairSB x y true H1.out _) ?_
  rintro e w1 ⟨rfl, b1⟩
  have B1 := Lib.hid (bthen (Joins.below_alloc2 w _ _) b1)
  have q0_1 := Lib.hid (K.below b1 q0.out)
  have q1_1 := Lib.hid (K.below b1 q1.out)
  clear b1
  go_wp2_with fail
  refine Calls.mono (inSB p 255 true _ H2.out) ?_
  rintro e w2 ⟨rfl, b2⟩
  have B2 := Lib.hid (bthen B1.out b2)
  have q0_2 := Lib.hid (K.below b2 q0_1.out)
  have q1_2 := Lib.hid (K.below b2 q1_1.out)
  clear b2
  go_wp2_with fail
  refine Calls.mono (inSB s 1500 true _ H3.out) ?_
  rintro e w3 ⟨rfl, b3⟩
  have B3 := Lib.hid (bthen B2.out b3)
  have q0_3 := Lib.hid (K.below b3 q0_2.out)
  have q1_3 := Lib.hid (K.below b3 q1_2.out)
  clear b3
  clear q0 q1 q0_1 q1_1 q0_2 q1_2 B1 B2
  have LZ : w.heap.size + 2 ≤ w3.heap.size := by have := K.lt q1_3.out; omega
  go_wp2_with fail
  refine wp_region_owns (by kernel_rfl) 4 52 [(0, 24), (1, 25), (2, 26), (3, 27)] _ ([.val (.agg #[.int .i64 x.k, .int .i64 x.a, .int .i64 x.b, .int .i64 x.c, .int .i64 x.d]), .own (w.heap.size + 2) 16 x.bytes, .val (.agg #[.int .i64 y.k, .int .i64 y.a, .int .i64 y.b, .int .i64 y.c, .int .i64 y.d]), .rb 16 y.bytes]) (by kernel_rfl) (by kernel_rfl) rfl rfl ?_ ?_
  · intro j o hj ho a' v K' hx hnd hB hK
    match j, hj, ho with
    | 0, _, ho =>
      obtain rfl := Option.some.inj ho
      have h0 : a'.eval (.tmp 4) = .pointer (some ⟨w.heap.size, 0, none⟩) := (hx 4 (by decide)).trans rfl
      exact wp_load_row 27 _ rfl w.heap.size h0 _ _ (0, 0) _ (K.below hB q0_3.out) Try.underlying27 rfl info_addrP (hK _ _ rfl (Below.refl _ _))
    | 1, _, ho =>
      obtain rfl := Option.some.inj ho
      have h0 : a'.eval (.tmp 24) = .agg #[.int .i64 x.k, .int .i64 x.a, .int .i64 x.b, .int .i64 x.c, .int .i64 x.d] := (owns_of hnd 0 24 (by kernel_rfl) :)
      refine u_addrBytesS _ _ _ rfl h0 (Calls.mono (bytesNS x 16 EL0.out v) ?_)
      rintro e' v' ⟨X, y, rfl, o6, b6⟩
      exact ⟨_, rfl, hK _ _ ⟨X, y, rfl, own_base o6 (Nat.le_trans LZ hB.size)⟩ b6⟩
    | 2, _, ho =>
      obtain rfl := Option.some.inj ho
      have h0 : a'.eval (.tmp 5) = .pointer (some ⟨w.heap.size + 1, 0, none⟩) := (hx 5 (by decide)).trans rfl
      exact wp_load_row 27 _ rfl (w.heap.size + 1) h0 _ _ (0, 0) _ (K.below hB q1_3.out) Try.underlying27 rfl info_addrP (hK _ _ rfl (Below.refl _ _))
    | 3, _, ho =>
      obtain rfl := Option.some.inj ho
      have h0 : a'.eval (.tmp 26) = .agg #[.int .i64 y.k, .int .i64 y.a, .int .i64 y.b, .int .i64 y.c, .int .i64 y.d] := (owns_of hnd 2 26 (by kernel_rfl) :)
      refine u_addrBytesS _ _ _ rfl h0 (Calls.mono (bytesNS y 16 ELY.out v) ?_)
      rintro e' v' ⟨X, z, rfl, o6, b6⟩
      exact ⟨_, rfl, hK _ _ ⟨X, z, rfl, RB.of_own o6⟩ b6⟩
    | j + 4, hj, _ => omega
  · intro f v hf hB
    have e0 : f 0 = (.agg #[.int .i64 x.k, .int .i64 x.a, .int .i64 x.b, .int .i64 x.c, .int .i64 x.d]) := hf (0, 24) (by decide)
    obtain ⟨X25, y25, e1, r1⟩ := hf (1, 25) (by decide)
    have R25 := Lib.hid r1
    clear r1
    have e2 : f 2 = (.agg #[.int .i64 y.k, .int .i64 y.a, .int .i64 y.b, .int .i64 y.c, .int .i64 y.d]) := hf (2, 26) (by decide)
    obtain ⟨X27, y27, e3, r3⟩ := hf (3, 27) (by decide)
    have R27 := Lib.hid r3
    clear r3
    simp only [List.foldl_cons, List.foldl_nil, List.drop_succ_cons, List.drop_zero, e0, e1, e2, e3]
    clear e0 e1 e2 e3 hf
    go_simp
    have B4 := Lib.hid (bthen B3.out hB)
    have q0_4 := Lib.hid (K.below hB q0_3.out)
    have LY4 : w.heap.size + 2 ≤ v.heap.size := Nat.le_trans LZ hB.size
    clear B3 q0_3 q1_3 hB
    refine wpList_append_b rfl (.tmp 25) (.tmp 27) rfl (w.heap.size + 2) (.slice X25 16 y25) x.bytes rfl (by rw [EL0.out]; exact R25.out) _ X27 16 y27 y.bytes rfl ELY.out R27.out (by rw [EL0.out, ELY.out]; omega) LY4 ?_
    intro v5 w5 o5 g5 _
    rw [EL1.out] at o5
    obtain ⟨A5, c5, rfl⟩ := own_form o5
    have O5 := Lib.hid o5
    clear o5
    have q0_5 := Lib.hid (K.kept g5 q0_4.out (fun k hk => by have := (World.ownsRow.lt R25.out k hk).1; omega))
    have B5 := Lib.hid (bgrown B4.out g5 (fun k hk => by have := (World.ownsRow.lt R25.out k hk).1; omega))
    have L5 : w.heap.size + 2 ≤ w5.heap.size := by have := g5.size; have := LY4; omega
    clear g5 B4 q0_4 R25 R27
    have hk := HK.out
    have c0 := K.cell q0_5.out 0 _ rfl
    go_wp2_with fail
    refine Calls.mono (put32S s _) ?_
    rintro e w6 ⟨X6, y6, rfl, p6, b6⟩
    have O6 := Lib.hid (own_below O5.out b6)
    have B6 := Lib.hid (bthen B5.out b6)
    have L6 : w.heap.size + 2 ≤ w6.heap.size := Nat.le_trans L5 b6.size
    have P6 := Lib.hid (RB.of_own p6)
    clear b6 p6
    go_wp2_with (first | (at_builtin; (refine wpList_append_b rfl (.tmp 41) (.tmp 43) rfl (w.heap.size + 2) (.slice A5 32 c5) (x.bytes ++ y.bytes) rfl (by rw [EL1.out]; exact O6.out) _ _ 4 _ (put32 s) rfl rfl P6.out (Nat.le_trans (Nat.le_of_eq (congrArg (· + _) EL1.out)) (show 32 + 4 ≤ 67108864 by omega)) L6 ?_); intro v7 w7 o7 g7 _; rw [EL2.out] at o7; obtain ⟨A7, c7, rfl⟩ := own_form o7; have O7 := Lib.hid o7; clear o7; have B7 := Lib.hid (bgrown B6.out g7 (fun k hk => by have := (World.ownsRow.lt O6.out k hk).1; omega)); have L7 : w.heap.size + 2 ≤ w7.heap.size := (by (have := g7.size; omega)); clear g7) | (at_builtin; (refine wpList_append_b rfl (.tmp 45) (.tmp 48) rfl (w.heap.size + 2) (.slice A7 36 c7) (x.bytes ++ y.bytes ++ put32 s) rfl (by rw [EL2.out]; exact (O7.out.alloc (.cells #[.int .u8 0, .int .u8 0, .int .u8 0, .int .u8 p] 5))) _ _ 4 _ ([0, 0, 0, byteOf p]) rfl rfl (rb_lit4 w7 p hp) (Nat.le_trans (Nat.le_of_eq (congrArg (· + _) EL2.out)) (show 36 + 4 ≤ 67108864 by omega)) (by first | (simp; done) | (simp; omega)) ?_); intro v8 w8 o8 g8 _; rw [EL3.out] at o8; obtain ⟨A8, c8, rfl⟩ := own_form o8; have O8 := Lib.hid o8; clear o8; have B8 := Lib.hid (bgrown (bthen B7.out (Joins.below_alloc1 w7 _)) g8 (fun k hk => by have := (World.ownsRow.lt (O7.out.alloc (.cells #[.int .u8 0, .int .u8 0, .int .u8 0, .int .u8 p] 5)) k hk).1; omega)); have L8 : w.heap.size + 2 ≤ w8.heap.size := (by (have := g8.size; simp at this; omega)); clear g8))
    refine Calls.mono (specOnes A8 40 c8 _ _ (RB.of_own O8.out) EL3.out (by omega)) ?_
    rintro e w9 ⟨rfl, rfl⟩
    have B9 := B8
    clear hk c0 hp hpw
    go_wp2
    go_ret
    exact ⟨ret_int (by rw [HR.out]; simp), B9.out⟩

theorem psS (x y : Ad) (p s : Int) (w : World) : Calls Try.prog 60 #[.agg #[.int .i64 x.k, .int .i64 x.a, .int .i64 x.b, .int .i64 x.c, .int .i64 x.d], .agg #[.int .i64 y.k, .int .i64 y.a, .int .i64 y.b, .int .i64 y.c, .int .i64 y.d], .int .i64 p, .int .i64 s] w fun e w' => e = .returned (.int .i64 (psSum x y p s)) ∧ Below w.heap.size w w' := by
  cases h1 : pairA x y with
  | false => exact psS_no1 x y p s w h1
  | true =>
    cases h2 : upTo p 255 with
    | false => exact psS_no2 x y p s w h1 h2
    | true =>
      cases h3 : upTo s 1500 with
      | false => exact psS_no3 x y p s w h1 h2 h3
      | true =>
        by_cases hk : x.k = 4
        · exact psS_four x y p s w h1 h2 h3 hk
        · exact psS_six x y p s w h1 h2 h3 hk
end Go.Proofs.Ythogonpjkngpjaa

namespace Go.Proofs.Ythogonpjkngpjaa
set_option maxRecDepth 100000
open Go.RowKit

section
variable {o : Oper} {a : Act} {w : World} {K : Act → World → Prop} {Q : Exit → Act → World → Prop}
theorem u_p16S (x : Operand) (x0 : Value) (ts : Array TypeId) (ho : o.op = .call { callee := .value (.func 58), args := #[x], argTypes := ts }) (h0 : a.eval x = x0)
    (h : Calls Try.prog 58 #[x0] w fun e w' => ∃ v, e = .returned v ∧ K (a.put o.dst v) w') : o.wp Try.prog a w K Q := by
  unfold Oper.wp execOp
  simp only [ho, resolve, List.map_toArray, List.map_cons, List.map_nil, h0, show ∀ f, a.eval (.func f) = .func (.func f) #[] #[] from fun _ => rfl]
  go_simp
  exact h.mono fun e w' ⟨u, he, hk⟩ => by subst he; exact hk
theorem u_p32S (x : Operand) (x0 : Value) (ts : Array TypeId) (ho : o.op = .call { callee := .value (.func 99), args := #[x], argTypes := ts }) (h0 : a.eval x = x0)
    (h : Calls Try.prog 99 #[x0] w fun e w' => ∃ v, e = .returned v ∧ K (a.put o.dst v) w') : o.wp Try.prog a w K Q := by
  unfold Oper.wp execOp
  simp only [ho, resolve, List.map_toArray, List.map_cons, List.map_nil, h0, show ∀ f, a.eval (.func f) = .func (.func f) #[] #[] from fun _ => rfl]
  go_simp
  exact h.mono fun e w' ⟨u, he, hk⟩ => by subst he; exact hk
theorem u_p16I (x : Operand) (x0 : Value) (ts : Array TypeId) (ho : o.op = .call { callee := .value (.func 75), args := #[x], argTypes := ts }) (h0 : a.eval x = x0)
    (h : Calls Try.prog 75 #[x0] w fun e w' => ∃ v, e = .returned v ∧ K (a.put o.dst v) w') : o.wp Try.prog a w K Q := by
  unfold Oper.wp execOp
  simp only [ho, resolve, List.map_toArray, List.map_cons, List.map_nil, h0, show ∀ f, a.eval (.func f) = .func (.func f) #[] #[] from fun _ => rfl]
  go_simp
  exact h.mono fun e w' ⟨u, he, hk⟩ => by subst he; exact hk
theorem u_headT (x : Operand) (x0 : Value) (ts : Array TypeId) (ho : o.op = .call { callee := .value (.func 121), args := #[x], argTypes := ts }) (h0 : a.eval x = x0)
    (h : Calls Try.prog 121 #[x0] w fun e w' => ∃ v, e = .returned v ∧ K (a.put o.dst v) w') : o.wp Try.prog a w K Q := by
  unfold Oper.wp execOp
  simp only [ho, resolve, List.map_toArray, List.map_cons, List.map_nil, h0, show ∀ f, a.eval (.func f) = .func (.func f) #[] #[] from fun _ => rfl]
  go_simp
  exact h.mono fun e w' ⟨u, he, hk⟩ => by subst he; exact hk
end
theorem put32J (n : Int) (w : World) : Calls Try.prog 74 #[.int .i64 n] w (TwoOut (put32 n) 4 w) := (implPut32 n w).mono fun _ _ ⟨h, o, b⟩ => ⟨_, _, h, o, b⟩
/-- What encoding leaves: a slice of its own that reads as L. -/
def EncOut (L : List UInt8) (w : World) (e : Ending) (w' : World) : Prop := ∃ A c, e = .returned (.slice A L.length c) ∧ w'.ownsRow w.heap.size 5 1 (.slice A L.length c) L.length (cellsOf L) ∧ Below w.heap.size w w'
theorem encOut {L M : List UInt8} {N : Nat} {w w' : World} {A : Option Addr} {c : Nat} (hM : M = L) (hN : M.length = N) (h : w'.ownsRow w.heap.size 5 1 (.slice A N c) N (cellsOf M) ∧ Below w.heap.size w w') : EncOut L w (.returned (.slice A N c)) w' := by
  subst hM
  subst hN
  exact ⟨A, c, rfl, h.1, h.2⟩
end Go.Proofs.Ythogonpjkngpjaa

namespace Go.Proofs.Ythogonpjkngpjaa
set_option maxRecDepth 100000
open Go.RowKit

theorem run_make_b (m : Nat) (hm : m ≤ 1048576) (w : World) : (Instr.makeSlice 34 (.int .i64 0) (.int .i64 (m : Int))).run Try.prog w = .ok (.slice (some ⟨w.heap.size, 0, none⟩) 0 m) (w.alloc (.cells (madeCells #[.int .u8 0] m) 5)) := by
  obtain ⟨i0, hi0, hz0, hz1, hz2⟩ := info_parts info_u8
  have := run_make (P := Try.prog) w 34 5 i0 (.int .u8 0) Try.underlying34 hi0 hz0 .i64 .i64 0 (m : Int) (Int.le_refl _) (by omega) (by rw [hz2]; omega) (by omega)
  simpa [hz1, Value.cells] using this
theorem run_make_z (z : Int) (m : Nat) (hz : z = (m : Int)) (hm : m ≤ 1048576) (w : World) : (Instr.makeSlice 34 (.int .i64 0) (.int .i64 z)).run Try.prog w = .ok (.slice (some ⟨w.heap.size, 0, none⟩) 0 m) (w.alloc (.cells (madeCells #[.int .u8 0] m) 5)) := hz ▸ run_make_b m hm w

end Go.Proofs.Ythogonpjkngpjaa

namespace Go.Proofs.Ythogonpjkngpjaa
set_option maxRecDepth 100000
open Go.RowKit

theorem or_12 (m b : Int) (h0 : 0 ≤ m) (h1 : m ≤ 1000000) (h2 : 0 ≤ b) (h3 : b ≤ 4095) : bits .or .i64 (4096 * m) b = 4096 * m + b := by
  have h := or_mul m.toNat b.toNat 12 (by omega) (by omega)
  rw [show ((2 ^ 12 * m.toNat : Nat) : Int) = 4096 * m by omega, show (b.toNat : Int) = b by omega, show ((2 ^ 12 * m.toNat + b.toNat : Nat) : Int) = 4096 * m + b by omega] at h
  exact h
section
variable {o : Oper} {a : Act} {w : World} {K : Act → World → Prop} {Q : Exit → Act → World → Prop}
theorem u_quo4 (x : Operand) (m : Int) (ho : o.op = .binOp .quo 3 x (.const (.int .i64 4)) 3) (hx : a.eval x = .int .i64 m) (h0 : 0 ≤ m) (h1 : m ≤ 1000000) (hK : K (a.put o.dst (.int .i64 (m / 4))) w) : o.wp Try.prog a w K Q := by
  unfold Oper.wp execOp
  simp only [ho, hx, show ∀ v, a.eval (.const v) = v from fun _ => rfl]
  go_simp
  rw [show IntKind.i64.wrap (m.tdiv 4) = m / 4 by rw [IntKind.wrap_i64, Int.tdiv_eq_ediv_of_nonneg h0]; omega]
  exact hK
theorem u_shl12 (x : Operand) (m : Int) (ho : o.op = .binOp .shl 3 x (.const (.int .u64 12)) 95) (hx : a.eval x = .int .i64 m) (h0 : 0 ≤ m) (h1 : m ≤ 1000000) (hK : K (a.put o.dst (.int .i64 (4096 * m))) w) : o.wp Try.prog a w K Q := by
  unfold Oper.wp execOp
  simp only [ho, hx, show ∀ v, a.eval (.const v) = v from fun _ => rfl]
  go_simp
  rw [show IntKind.i64.wrap (m * 4096) = 4096 * m by rw [IntKind.wrap_i64]; omega]
  exact hK
theorem u_or12 (x y : Operand) (m b : Int) (ho : o.op = .binOp .or 3 x y 3) (hx : a.eval x = .int .i64 (4096 * m)) (hy : a.eval y = .int .i64 b) (h0 : 0 ≤ m) (h1 : m ≤ 1000000) (h2 : 0 ≤ b) (h3 : b ≤ 4095) (hK : K (a.put o.dst (.int .i64 (4096 * m + b))) w) : o.wp Try.prog a w K Q := by
  unfold Oper.wp execOp
  simp only [ho, hx, hy]
  go_simp
  rw [or_12 m b h0 h1 h2 h3]
  exact hK
theorem u_twoO (b0 : Nat) (x y : Operand) (m n : Int) (ho : o.op = .buildSlice 34 2 #[(0, x), (1, y)]) (hx : a.eval x = .int .u8 m) (hy : a.eval y = .int .u8 n) (hm : 0 ≤ m ∧ m < 256) (hn : 0 ≤ n ∧ n < 256) (hb : b0 ≤ w.heap.size)
    (hK : ∀ v w', (∃ A c, v = .slice A 2 c ∧ w'.ownsRow b0 5 1 (.slice A 2 c) 2 (cellsOf [byteOf m, byteOf n])) → Below w.heap.size w w' → K (a.put o.dst v) w') : o.wp Try.prog a w K Q := by
  unfold Oper.wp execOp
  simp only [ho, List.map_toArray, List.map_cons, List.map_nil, hx, hy]
  go_simp
  have e : cellsOf [byteOf m, byteOf n] = [.int .u8 m, .int .u8 n] := by simp [cellsOf, byteOf_val, Int.emod_eq_of_lt hm.1 hm.2, Int.emod_eq_of_lt hn.1 hn.2]
  exact hK _ _ ⟨_, _, rfl, by rw [e]; exact World.ownsRow_lit w _ 2 hb (by decide) rfl⟩ (Joins.below_alloc1 w _)
end
theorem info_tcp : (Try.prog.info? 110).map (·.size) = some 14 := by kernel_rfl
theorem load_tcp {ops : Array Oper} {rest : List Oper} {o : Oper} {a : Act} {w : World} {Q : Exit → Act → World → Prop} (hgd : o.guard = none) (x : Operand) (ho : o.op = .load 110 x) (g : Nat) (hx : a.eval x = .pointer (some ⟨g, 0, none⟩)) {t : TypeId} {v0 v1 v2 v3 v4 v5 v6 v7 v8 v9 v10 v11 v12 v13 : Value}
    (hg : w.heap[g]? = some (.cells #[v0, v1, v2, v3, v4, v5, v6, v7, v8, v9, v10, v11, v12, v13] t (0, 0))) (h : wpList Try.prog ops Q rest (a.put o.dst (.agg #[v0, v1, v2, v3, v4, v5, v6, v7, v8, v9, v10, v11, v12, v13])) w) : wpList Try.prog ops Q (o :: rest) a w :=
  wpList_load_row hgd 110 x ho g hx t _ (0, 0) _ hg Try.underlying110 rfl info_tcp h
theorem storeNew_tcp {ops : Array Oper} {rest : List Oper} {o : Oper} {a : Act} {w : World} {Q : Exit → Act → World → Prop} (hgd : o.guard = none) (x y : Operand) (ho : o.op = .store 110 x y) {n0 n1 n2 n3 n4 n5 n6 n7 n8 n9 n10 : Int} {bb : Bool} {A D : Option Addr} {l c m d : Nat} (hx : a.eval x = .pointer (some ⟨w.heap.size, 0, none⟩)) (hy : a.eval y = .agg #[.int .i64 n0, .int .i64 n1, .int .i64 n2, .int .i64 n3, .int .i64 n4, .int .i64 n5, .int .i64 n6, .int .i64 n7, .int .i64 n8, .int .i64 n9, .int .i64 n10, .bool bb, .slice A l c, .slice D m d])
    (h : wpList Try.prog ops Q rest (a.put o.dst undef) (w.alloc (.cells #[.int .i64 n0, .int .i64 n1, .int .i64 n2, .int .i64 n3, .int .i64 n4, .int .i64 n5, .int .i64 n6, .int .i64 n7, .int .i64 n8, .int .i64 n9, .int .i64 n10, .bool bb, .slice A l c, .slice D m d] 110))) : wpList Try.prog ops Q (o :: rest) a (w.alloc (.cells #[.int .i64 0, .int .i64 0, .int .i64 0, .int .i64 0, .int .i64 0, .int .i64 0, .int .i64 0, .int .i64 0, .int .i64 0, .int .i64 0, .int .i64 0, .bool false, .slice none 0 0, .slice none 0 0] 110)) := by
  refine wpList_store_row hgd 110 x y ho w.heap.size _ hx hy 110 _ (K.new w _) info_tcp rfl (by simp [Value.oneCell']) ?_
  rw [World.setRow_alloc_new]
  exact h
theorem info_udp : (Try.prog.info? 111).map (·.size) = some 14 := by kernel_rfl
theorem load_udp {ops : Array Oper} {rest : List Oper} {o : Oper} {a : Act} {w : World} {Q : Exit → Act → World → Prop} (hgd : o.guard = none) (x : Operand) (ho : o.op = .load 111 x) (g : Nat) (hx : a.eval x = .pointer (some ⟨g, 0, none⟩)) {t : TypeId} {v0 v1 v2 v3 v4 v5 v6 v7 v8 v9 v10 v11 v12 v13 : Value}
    (hg : w.heap[g]? = some (.cells #[v0, v1, v2, v3, v4, v5, v6, v7, v8, v9, v10, v11, v12, v13] t (0, 0))) (h : wpList Try.prog ops Q rest (a.put o.dst (.agg #[v0, v1, v2, v3, v4, v5, v6, v7, v8, v9, v10, v11, v12, v13])) w) : wpList Try.prog ops Q (o :: rest) a w :=
  wpList_load_row hgd 111 x ho g hx t _ (0, 0) _ hg Try.underlying111 rfl info_udp h
theorem storeNew_udp {ops : Array Oper} {rest : List Oper} {o : Oper} {a : Act} {w : World} {Q : Exit → Act → World → Prop} (hgd : o.guard = none) (x y : Operand) (ho : o.op = .store 111 x y) {n0 n1 n2 n3 n4 n5 n6 n7 n8 n9 n10 : Int} {bb : Bool} {A D : Option Addr} {l c m d : Nat} (hx : a.eval x = .pointer (some ⟨w.heap.size, 0, none⟩)) (hy : a.eval y = .agg #[.int .i64 n0, .int .i64 n1, .int .i64 n2, .int .i64 n3, .int .i64 n4, .int .i64 n5, .int .i64 n6, .int .i64 n7, .int .i64 n8, .int .i64 n9, .int .i64 n10, .bool bb, .slice A l c, .slice D m d])
    (h : wpList Try.prog ops Q rest (a.put o.dst undef) (w.alloc (.cells #[.int .i64 n0, .int .i64 n1, .int .i64 n2, .int .i64 n3, .int .i64 n4, .int .i64 n5, .int .i64 n6, .int .i64 n7, .int .i64 n8, .int .i64 n9, .int .i64 n10, .bool bb, .slice A l c, .slice D m d] 111))) : wpList Try.prog ops Q (o :: rest) a (w.alloc (.cells #[.int .i64 0, .int .i64 0, .int .i64 0, .int .i64 0, .int .i64 0, .int .i64 0, .int .i64 0, .int .i64 0, .int .i64 0, .int .i64 0, .int .i64 0, .bool false, .slice none 0 0, .slice none 0 0] 111)) := by
  refine wpList_store_row hgd 111 x y ho w.heap.size _ hx hy 111 _ (K.new w _) info_udp rfl (by simp [Value.oneCell']) ?_
  rw [World.setRow_alloc_new]
  exact h
theorem info_icmp : (Try.prog.info? 112).map (·.size) = some 14 := by kernel_rfl
theorem load_icmp {ops : Array Oper} {rest : List Oper} {o : Oper} {a : Act} {w : World} {Q : Exit → Act → World → Prop} (hgd : o.guard = none) (x : Operand) (ho : o.op = .load 112 x) (g : Nat) (hx : a.eval x = .pointer (some ⟨g, 0, none⟩)) {t : TypeId} {v0 v1 v2 v3 v4 v5 v6 v7 v8 v9 v10 v11 v12 v13 : Value}
    (hg : w.heap[g]? = some (.cells #[v0, v1, v2, v3, v4, v5, v6, v7, v8, v9, v10, v11, v12, v13] t (0, 0))) (h : wpList Try.prog ops Q rest (a.put o.dst (.agg #[v0, v1, v2, v3, v4, v5, v6, v7, v8, v9, v10, v11, v12, v13])) w) : wpList Try.prog ops Q (o :: rest) a w :=
  wpList_load_row hgd 112 x ho g hx t _ (0, 0) _ hg Try.underlying112 rfl info_icmp h
theorem storeNew_icmp {ops : Array Oper} {rest : List Oper} {o : Oper} {a : Act} {w : World} {Q : Exit → Act → World → Prop} (hgd : o.guard = none) (x y : Operand) (ho : o.op = .store 112 x y) {n0 n1 n2 n3 n4 n5 n6 n7 n8 n9 n10 : Int} {bb : Bool} {A D : Option Addr} {l c m d : Nat} (hx : a.eval x = .pointer (some ⟨w.heap.size, 0, none⟩)) (hy : a.eval y = .agg #[.int .i64 n0, .int .i64 n1, .int .i64 n2, .int .i64 n3, .int .i64 n4, .int .i64 n5, .int .i64 n6, .int .i64 n7, .int .i64 n8, .int .i64 n9, .int .i64 n10, .bool bb, .slice A l c, .slice D m d])
    (h : wpList Try.prog ops Q rest (a.put o.dst undef) (w.alloc (.cells #[.int .i64 n0, .int .i64 n1, .int .i64 n2, .int .i64 n3, .int .i64 n4, .int .i64 n5, .int .i64 n6, .int .i64 n7, .int .i64 n8, .int .i64 n9, .int .i64 n10, .bool bb, .slice A l c, .slice D m d] 112))) : wpList Try.prog ops Q (o :: rest) a (w.alloc (.cells #[.int .i64 0, .int .i64 0, .int .i64 0, .int .i64 0, .int .i64 0, .int .i64 0, .int .i64 0, .int .i64 0, .int .i64 0, .int .i64 0, .int .i64 0, .bool false, .slice none 0 0, .slice none 0 0] 112)) := by
  refine wpList_store_row hgd 112 x y ho w.heap.size _ hx hy 112 _ (K.new w _) info_icmp rfl (by simp [Value.oneCell']) ?_
  rw [World.setRow_alloc_new]
  exact h
end Go.Proofs.Ythogonpjkngpjaa

namespace Go.Proofs.Ythogonpjkngpjaa
set_option maxRecDepth 100000
open Go.RowKit

/-- The head of a frame: Dst, Src, Tag, Kind. -/
structure Eh where
  d : Int
  s : Int
  t : Int
  k : Int
deriving DecidableEq

def Eh.zero : Eh := ⟨0, 0, 0, 0⟩
def Eh.head (x : Eh) : Int := if x.t = -1 then 14 else 18
def macOk (n : Int) : Bool := decide (0 ≤ n ∧ n ≤ 281474976710655)
def kindOk (n : Int) : Bool := decide (1536 ≤ n ∧ n ≤ 65535 ∧ n ≠ 33024)
def tagOk (n : Int) : Bool := decide (-1 ≤ n ∧ n ≤ 65535)
/-- Is a frame with this head and n bytes of a body valid? -/
def Eh.ok (x : Eh) (n : Nat) : Bool := macOk x.d && macOk x.s && tagOk x.t && kindOk x.k && decide ((n : Int) ≤ 1600 - x.head)
theorem Eh.ok_iff (x : Eh) (n : Nat) : x.ok n = true ↔ (0 ≤ x.d ∧ x.d ≤ 281474976710655) ∧ (0 ≤ x.s ∧ x.s ≤ 281474976710655) ∧ (-1 ≤ x.t ∧ x.t ≤ 65535) ∧ (1536 ≤ x.k ∧ x.k ≤ 65535 ∧ x.k ≠ 33024) ∧ (n : Int) ≤ 1600 - x.head := by
  simp only [Eh.ok, macOk, tagOk, kindOk, Bool.and_eq_true, decide_eq_true_eq, and_assoc]
/-- The six bytes of an address. -/
def mac (n : Int) : List UInt8 := put16 (n / 4294967296) ++ put32 n
/-- The bytes of a head. -/
def Eh.top (x : Eh) : List UInt8 := mac x.d ++ mac x.s ++ (if x.t = -1 then [] else put16 33024 ++ put16 x.t) ++ put16 x.k
def Eh.bytes (x : Eh) (bs : List UInt8) : List UInt8 := if x.ok bs.length then x.top ++ bs else []
end Go.Proofs.Ythogonpjkngpjaa

namespace Go.Proofs.Ythogonpjkngpjaa
set_option maxRecDepth 100000
open Go.RowKit

theorem be_lt5 (l : List UInt8) (j : Nat) (h : j ≤ 5) : be (l.take j) < 1099511627776 := by
  have h1 := be_lt (l.take j)
  have h2 : 256 ^ (l.take j).length ≤ 256 ^ 5 := Nat.pow_le_pow_right (by omega) (Nat.le_trans (List.length_take_le _ _) h)
  omega
theorem or_byteW (m b : Nat) (hm : m < 1099511627776) (hb : b < 256) : bits .or .i64 ((m : Int) * 256) (b : Int) = (m : Int) * 256 + b := by
  have e : ((m : Int) * 256) = ((256 * m : Nat) : Int) := by omega
  have ho : 256 * m ||| b = 256 * m + b := (Nat.two_pow_add_eq_or_of_lt (i := 8) (by simpa using hb) m).symm
  rw [e]
  show IntKind.i64.wrap ((BitVec.ofInt 64 ((256 * m : Nat) : Int) ||| BitVec.ofInt 64 (b : Int)).toNat : Int) = _
  rw [BitVec.toNat_or, ofInt_i64 _ (by omega), ofInt_i64 b (by omega), ho, IntKind.wrap_i64]
  omega

set_option maxHeartbeats 400000 in
theorem implBigW (A : Option Addr) (n c : Nat) (bs : List UInt8) (k : Nat) (s : Nat) (w : World) (hr : RB w w.heap.size A bs) (hl : bs.length = n) (hn : n ≤ 1048576) (hc : n ≤ c) (hs0 : 0 < s) (hs : s ≤ 6) (h : k + s ≤ n) :
    Calls Try.prog 123 #[.slice A n c, .int .i64 (k : Int), .int .i64 s] w fun e w' => e = .returned (.tuple #[.int .i64 (be ((bs.drop k).take s)), .bool true]) ∧ w = w' := by
  subst hl
  obtain ⟨g, o, rfl, hg, hcell⟩ := hr (by omega)
  have hne : ¬ c = k := by omega
  go_enter Try.func123, Try.ntmps123
  go_wp2_with (go_at_call 42; refine (within_yes _ _ _ _ (by omega) (by omega)).mono ?_; rintro e w' ⟨rfl, rfl⟩)
  go_loop [8, 25] (fun n i => ∃ j : Nat, j ≤ s ∧ i = .int .i64 j ∧ n = .int .i64 (be ((bs.drop k).take j))) (fun _ i => s - (intOf i).toNat)
  case atStart => exact ⟨0, Nat.zero_le _, rfl, rfl⟩
  case round =>
    obtain ⟨j, hj, rfl, rfl⟩ := hrel
    by_cases hlt : j < s
    · have hc0 : w.cell? ⟨g, o + k + j, none⟩ = some (.int .u8 (bs[k + j].toNat : Int)) := by
        rw [Nat.add_assoc]
        exact hcell (k + j) _ (List.getElem?_eq_getElem (by omega))
      have hb : (bs[k + j].toNat) < 256 := UInt8.toNat_lt _
      have hm := be_lt5 (bs.drop k) j (by omega)
      have hor := or_byteW (be ((bs.drop k).take j)) bs[k + j].toNat (by omega) hb
      have hst := Lib.hid (show be ((bs.drop k).take (j + 1)) = 256 * be ((bs.drop k).take j) + bs[k + j].toNat by
        rw [take_snoc _ j (by simp; omega), be_snoc]
        simp)
      clear hcell
      go_wp2
      go_round
      case rel => exact ⟨j + 1, by omega, by go_num, by rw [hst.out]; go_num⟩
      case measure => simp [intOf]; omega
    · obtain rfl : j = s := by omega
      go_wp2
      go_ret2
      exact ⟨rfl, rfl⟩

/-- The reader lies in block g: its bytes (they read as bs and lie below g) and its place k. -/
structure Rd (w : World) (g : Nat) (A : Option Addr) (n c : Nat) (bs : List UInt8) (k : Nat) : Prop where
  blk : w.heap[g]? = some (.cells #[.slice A n c, .int .i64 (k : Int)] 77 (0, 0))
  rb : RB w g A bs
  len : bs.length = n
  small : n ≤ 1048576
  cap : n ≤ c
section
variable {w w' : World} {g : Nat} {A : Option Addr} {n c : Nat} {bs : List UInt8} {k : Nat}
theorem Rd.lt (h : Rd w g A n c bs k) : g < w.heap.size := K.lt h.blk
theorem Rd.setAt (h : Rd w g A n c bs k) (m j : Nat) : Rd ((w.drewN m).setCell ⟨g, 1, none⟩ (.int .i64 (j : Int))) g A n c bs j ∧ w.grownBy ((w.drewN m).setCell ⟨g, 1, none⟩ (.int .i64 (j : Int))) (some g) := by
  have hg := step_grown w g 1 m (.int .i64 (j : Int))
  exact ⟨⟨K.set (w := w.drewN m) h.blk 1 _, h.rb.grownBy hg (Nat.le_refl _), h.len, h.small, h.cap⟩, hg⟩
theorem Rd.setAt0 (h : Rd w g A n c bs k) (j : Nat) : Rd (w.setCell ⟨g, 1, none⟩ (.int .i64 (j : Int))) g A n c bs j ∧ w.grownBy (w.setCell ⟨g, 1, none⟩ (.int .i64 (j : Int))) (some g) := h.setAt 0 j
theorem Rd.below (h : Rd w g A n c bs k) (hb : Below w.heap.size w w') : Rd w' g A n c bs k := ⟨K.below hb h.blk, h.rb.below (hb.mono (Nat.le_of_lt h.lt)), h.len, h.small, h.cap⟩
theorem Rd.drewN (h : Rd w g A n c bs k) (m : Nat) : Rd (w.drewN m) g A n c bs k := ⟨h.blk, h.rb, h.len, h.small, h.cap⟩
end

set_option maxHeartbeats 400000 in
theorem cloneC (a : Addr) (n c : Nat) (bs : List UInt8) (B : Nat) (w : World) (hr : RB w B (some a) bs) (hB : B ≤ w.heap.size) (hl : bs.length = n) (hn : n ≤ 1048576) :
    Calls Try.prog 83 #[.slice (some a) n c] w fun e w' => ∃ D d, e = .returned (.slice D n d) ∧ w'.ownsRow w.heap.size 5 1 (.slice D n d) n (cellsOf bs) ∧ Below w.heap.size w w' := by
  subst hl
  have o0 : (w.alloc (.cells #[] 5)).ownsRow w.heap.size 5 1 (.slice (some ⟨w.heap.size, 0, none⟩) 0 0) ([] : List UInt8).length (cellsOf []) := World.ownsRow_lit w #[] 0 (Nat.le_refl _) (Nat.zero_le _) rfl
  have hb0 : Below w.heap.size w (w.alloc (.cells #[] 5)) := (Below.refl _ _).alloc (Nat.le_refl _) _
  have r0 := (hr.more hB).below hb0
  have hnil : ∀ v : World, (binOp .eql 34 (.slice (some a) bs.length c) (.slice none 0 0)).run Try.prog v = .ok (.bool false) v := fun v => Lib.run_eql_slice_nil v _ _ _ _ _ _ _ Try.underlying34
  clear hr
  go_enter Try.func83, Try.ntmps83
  go_wp2_with (at_builtin; refine wpList_append_b rfl (.tmp 5) (.tmp 6) rfl w.heap.size (.slice (some ⟨w.heap.size, 0, none⟩) 0 0) [] rfl o0 _ (some a) bs.length c bs rfl rfl r0 (by simp; omega) (by simp) ?_; intro v3 w3 o3 g3 _)
  go_ret
  obtain ⟨A, c, rfl⟩ := own_form o3
  exact ⟨A, c, rfl, o3, hb0.grown g3 (by simp) (by simp [Value.ownBlock])⟩

theorem cut_mid (A : Option Addr) (n c k s j : Nat) (hj : k + s = j) (h : j ≤ c) (w : World) : (Instr.sliceAt 34 (.slice A n c) (some (.int .i64 (k : Int))) (some (.int .i64 (j : Int))) none).run Try.prog w = .ok (.slice (if c = k then A else A.map (·.add (k * 1))) s (c - k)) w := by
  obtain ⟨i0, hi0, hz0, hz1, hz2⟩ := info_parts info_u8
  rw [run_sliceAt_slice w _ _ _ _ _ (by kernel_rfl), run_slice_lh w _ _ _ _ (by kernel_rfl) .i64 .i64 (k : Int) (j : Int) (by omega) (by omega) (by omega)]
  have e : Try.prog.elem 34 = 5 := by kernel_rfl
  simp [e, sizeOf, typeInfo, hi0, sliced, hz1]
  omega

theorem below_grown {w w' : World} (h : Below w.heap.size w w') (row : Option Nat) : w.grownBy w' row := ⟨h.os, h.tape, h.output, h.size, fun k hk _ => h.block k hk⟩

end Go.Proofs.Ythogonpjkngpjaa
