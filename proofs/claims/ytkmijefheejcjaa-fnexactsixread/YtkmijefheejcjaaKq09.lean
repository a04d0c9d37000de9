/-
  FourOk in the program. FourOk in the program, at every packet. What the head of an IPv4 packet is made of: integers packed by shifts, two and four bytes at a time. The head of an IPv4 packet, in the model. The head of an IPv4 packet, in the program. What the laws' own helpers on slices of integers do: a copy, a comparison; a slice of integers that came in. What the model's functions of chapter 2 answer. What the program's functions of chapter 2 answer. FourPiece and HeadSum, in the model and in the program.
-/
import Derived.Test.YtkmijefheejcjaaKq07
import Derived.Lib.QuietBelow
import Derived.Deep.QuietTactic
import Derived.BigQuiet
import Derived.Test.YtkmijefheejcjaaKq08
import Derived.Test.YtkmijefheejcjaaKq04
import Derived.Test.YtkmijefheejcjaaKq06
import Derived.ProofKit
import Derived.OpenShut
import Derived.Test.YtkmijefheejcjaaKq01
import Derived.StillTailTactics
namespace Go.Proofs.Ytkmijefheejcjaa
set_option maxRecDepth 100000
open Go.RowKit

theorem quiet_row {w v : World} {g : Nat} {o : Obj} (hv : ∃ p : Regrown, v = Go.Sort.grow (redrawn w p.d) p.os) (h : w.heap[g]? = some o) : v.heap[g]? = some o := by
  obtain ⟨p, rfl⟩ := hv
  exact K.below (below_regrown w p.d p.os) h

end Go.Proofs.Ytkmijefheejcjaa

namespace Go.Proofs.Ytkmijefheejcjaa
set_option maxRecDepth 100000
open Go.RowKit

end Go.Proofs.Ytkmijefheejcjaa

namespace Go.Proofs.Ytkmijefheejcjaa
set_option maxRecDepth 100000
open Go.RowKit

theorem or_mul (m b i : Nat) (hm : 2 ^ i * m + b < 4611686018427387904) (hb : b < 2 ^ i) : bits .or .i64 ((2 ^ i * m : Nat) : Int) (b : Int) = ((2 ^ i * m + b : Nat) : Int) := by
  have ho : 2 ^ i * m ||| b = 2 ^ i * m + b := (Nat.two_pow_add_eq_or_of_lt hb m).symm
  show IntKind.i64.wrap ((BitVec.ofInt 64 ((2 ^ i * m : Nat) : Int) ||| BitVec.ofInt 64 (b : Int)).toNat : Int) = _
  rw [BitVec.toNat_or, ofInt_i64 _ (by omega), ofInt_i64 b (by omega), ho, IntKind.wrap_i64]
  omega
theorem or_2 (a b : Int) (ha : 0 ≤ a ∧ a ≤ 63) (hb : 0 ≤ b ∧ b ≤ 3) : bits .or .i64 (a * 4) b = 4 * a + b := by
  obtain ⟨m, rfl⟩ := Int.eq_ofNat_of_zero_le ha.1
  obtain ⟨k, rfl⟩ := Int.eq_ofNat_of_zero_le hb.1
  have := or_mul m k 2 (by omega) (by omega)
  rw [show (m : Int) * 4 = ((2 ^ 2 * m : Nat) : Int) by omega, this]
  omega
theorem or_13 (a b : Int) (ha : 0 ≤ a ∧ a ≤ 7) (hb : 0 ≤ b ∧ b ≤ 8191) : bits .or .i64 (a * 8192) b = 8192 * a + b := by
  obtain ⟨m, rfl⟩ := Int.eq_ofNat_of_zero_le ha.1
  obtain ⟨k, rfl⟩ := Int.eq_ofNat_of_zero_le hb.1
  have := or_mul m k 13 (by omega) (by omega)
  rw [show (m : Int) * 8192 = ((2 ^ 13 * m : Nat) : Int) by omega, this]
  omega
theorem or_64 (q : Int) (hq : 0 ≤ q ∧ q ≤ 15) : bits .or .i64 64 q = 64 + q := by
  obtain ⟨k, rfl⟩ := Int.eq_ofNat_of_zero_le hq.1
  have := or_mul 4 k 4 (by omega) (by omega)
  rw [show (64 : Int) = ((2 ^ 4 * 4 : Nat) : Int) by omega, this]
  omega

def TwoOut (ds : List UInt8) (k : Nat) (w : World) (e : Ending) (w' : World) : Prop := ∃ A c, e = .returned (.slice A k c) ∧ w'.ownsRow w.heap.size 5 1 (.slice A k c) k (cellsOf ds) ∧ Below w.heap.size w w'
theorem put16S (n : Int) (w : World) : Calls Try.prog 84 #[.int .i64 n] w (TwoOut (put16 n) 2 w) := (specPut16 n w).mono fun _ _ ⟨h, o, b⟩ => ⟨_, _, h, o, b⟩
theorem put16I (n : Int) (w : World) : Calls Try.prog 58 #[.int .i64 n] w (TwoOut (put16 n) 2 w) := (implPut16 n w).mono fun _ _ ⟨h, o, b⟩ => ⟨_, _, h, o, b⟩
theorem addr4S (x : Ad) (h : adOk4 x = true) (w : World) : Calls Try.prog 100 #[.agg #[.int .i64 x.k, .int .i64 x.a, .int .i64 x.b, .int .i64 x.c, .int .i64 x.d]] w (TwoOut (put32 x.d) 4 w) :=
  (specAddrBytes x w).mono fun _ _ ⟨A, c, he, o, b⟩ => by rw [adOk4_bytes h] at he o; exact ⟨A, c, he, o, b⟩
theorem addr4I (x : Ad) (h : adOk4 x = true) (w : World) : Calls Try.prog 60 #[.agg #[.int .i64 x.k, .int .i64 x.a, .int .i64 x.b, .int .i64 x.c, .int .i64 x.d]] w (TwoOut (put32 x.d) 4 w) :=
  (implAddrBytes x w).mono fun _ _ ⟨A, c, he, o, b⟩ => by rw [adOk4_bytes h] at he o; exact ⟨A, c, he, o, b⟩
theorem hcells2 (a b : Int) : cellsOf [byteOf a, byteOf b] = [.int .u8 (a % 256), .int .u8 (b % 256)] := by simp [cellsOf, byteOf_val]
theorem cells2s (a b : Int) (ha : 0 ≤ a ∧ a < 256) (hb : 0 ≤ b ∧ b < 256) : cellsOf [byteOf a, byteOf b] = [.int .u8 a, .int .u8 b] := by
  rw [hcells2, Int.emod_eq_of_lt ha.1 ha.2, Int.emod_eq_of_lt hb.1 hb.2]
theorem rb_two (w : World) (a b : Int) : RB (w.alloc (.cells #[.int .u8 (a % 256), .int .u8 (b % 256)] 5)) (w.heap.size + 1) (some ⟨w.heap.size, 0, none⟩) [byteOf a, byteOf b] := by
  have := RB.new w 5 [byteOf a, byteOf b]
  rw [hcells2] at this
  exact this

theorem rb_twos (w : World) (a b : Int) (ha : 0 ≤ a ∧ a < 256) (hb : 0 ≤ b ∧ b < 256) : RB (w.alloc (.cells #[.int .u8 a, .int .u8 b] 5)) (w.heap.size + 1) (some ⟨w.heap.size, 0, none⟩) [byteOf a, byteOf b] := by
  have := RB.new w 5 [byteOf a, byteOf b]
  rw [cells2s a b ha hb] at this
  exact this

/-- What is made of a head. -/
def HeadOut (x : Fh) (sum : Int) (os : List UInt8) (n m : Nat) (w : World) (e : Ending) (w' : World) : Prop :=
  ∃ A c, e = .returned (.slice A (20 + n) c) ∧ w'.ownsRow w.heap.size 5 1 (.slice A (20 + n) c) (20 + n) (cellsOf (x.head sum os m)) ∧ Below w.heap.size w w'
end Go.Proofs.Ytkmijefheejcjaa

namespace Go.Proofs.Ytkmijefheejcjaa
set_option maxRecDepth 100000
open Go.RowKit

end Go.Proofs.Ytkmijefheejcjaa

namespace Go.Proofs.Ytkmijefheejcjaa
set_option maxRecDepth 100000
open Go.RowKit

theorem run_make_b (m : Nat) (hm : m ≤ 1048576) (w : World) : (Instr.makeSlice 22 (.int .i64 0) (.int .i64 (m : Int))).run Try.prog w = .ok (.slice (some ⟨w.heap.size, 0, none⟩) 0 m) (w.alloc (.cells (madeCells #[.int .u8 0] m) 5)) := by
  obtain ⟨i0, hi0, hz0, hz1, hz2⟩ := info_parts info_u8
  have := run_make (P := Try.prog) w 22 5 i0 (.int .u8 0) Try.underlying22 hi0 hz0 .i64 .i64 0 (m : Int) (Int.le_refl _) (by omega) (by rw [hz2]; omega) (by omega)
  simpa [hz1, Value.cells] using this
theorem own_made_b (w : World) (base m : Nat) (hb : base ≤ w.heap.size) (hm : m ≤ 1048576) : (w.alloc (.cells (madeCells #[.int .u8 0] m) 5)).ownsRow base 5 1 (.slice (some ⟨w.heap.size, 0, none⟩) 0 m) ([] : List UInt8).length (cellsOf []) :=
  World.ownsRow_made w _ m hb (by unfold maxLen; omega) (by rw [size_madeCells]; simp)
theorem run_make_z (z : Int) (m : Nat) (hz : z = (m : Int)) (hm : m ≤ 1048576) (w : World) : (Instr.makeSlice 22 (.int .i64 0) (.int .i64 z)).run Try.prog w = .ok (.slice (some ⟨w.heap.size, 0, none⟩) 0 m) (w.alloc (.cells (madeCells #[.int .u8 0] m) 5)) := hz ▸ run_make_b m hm w

end Go.Proofs.Ytkmijefheejcjaa

namespace Go.Proofs.Ytkmijefheejcjaa
set_option maxRecDepth 100000
open Go.RowKit

theorem int_fill (pre tail : List Int) (x b : Int) (k : Nat) (hk : pre.length = k) : (intsOf (pre ++ x :: tail)).set k (.int .i64 b) = intsOf ((pre ++ [b]) ++ tail) := by
  have h := set_mid (intsOf pre) (.int .i64 x) (.int .i64 b) (intsOf tail) k (by rw [intsOf_length]; exact hk)
  simpa [intsOf] using h

theorem int_copy (xs : List Int) (k : Nat) (h : k < xs.length) :
    (intsOf (xs.take k ++ List.replicate (xs.length - k) 0)).set k (.int .i64 xs[k]) = intsOf (xs.take (k + 1) ++ List.replicate (xs.length - (k + 1)) 0) := by
  rw [show xs.length - k = (xs.length - (k + 1)) + 1 by omega, List.replicate_succ, int_fill _ _ _ _ k (by simp; omega), take_snoc xs k h]





/-- A slice of integers that came in: what the walk is told of it. -/
structure InI (w : World) (A : Option Addr) (n c : Nat) (xs : List Int) : Prop where
  len : xs.length = n
  cap : n ≤ c
  big : c ≤ maxLen
  rb : RV w w.heap.size A (intsOf xs)
  wf : ∀ x ∈ xs, (Lit.int .i64 x).wf = true

open Go.ChangeShapes Go.WideShapes Go.ChangeAt in
theorem ints_in {H : Type} {enc : TypeId × Value → H} {w : World} {A : Option Addr} {n c : Nat} {d : DataW H} {p : List MemPlace} (h : DataW.Trod enc Try.prog w 0 (fun _ => true) true 43 (.slice A n c) d p) :
    ∃ xs, InI w A n c xs := by
  obtain ⟨fuel, hf⟩ := h
  rcases open_ints Try.underlying43 Try.underlying3 (by kernel_rfl) hf with ⟨hcs, _⟩ | ⟨x, l, cp, zs, hcs, _, hl, hm, hz, _, hcell, hwz⟩
  · simp [Value.cells] at hcs
    obtain ⟨rfl, rfl, rfl⟩ := hcs
    exact ⟨[], rfl, Nat.le_refl _, Nat.zero_le _, RV.nil_ _ _ _, by simp⟩
  · simp [Value.cells] at hcs
    obtain ⟨rfl, rfl, rfl⟩ := hcs
    simp only [if_true] at hz
    refine ⟨zs.take n, by simp; omega, hl, hm, fun hp => ?_, fun x hx => hwz x (List.mem_of_mem_take hx)⟩
    simp only [intsOf_length, List.length_take] at hp
    obtain ⟨g, o, spot⟩ := x
    have h0 := hcell 0 (by omega)
    have hspot : spot = none := by simpa [Addr.add] using World.cell?_spot h0
    subst hspot
    refine ⟨g, o, rfl, ?_, fun j u hu => ?_⟩
    · have := World.block_lt_of_cell? w _ h0
      simpa [addr_add] using this
    · simp only [intsOf, List.getElem?_map, Option.map_eq_some_iff, List.getElem?_take] at hu
      obtain ⟨z, hz1, rfl⟩ := hu
      split at hz1
      · have hj : j < zs.length := by omega
        have hc := hcell j hj
        rw [addr_add] at hc
        rw [hc]
        have hzj : zs[j] = z := by rw [List.getElem?_eq_getElem hj] at hz1; simpa using hz1
        simp [hj, hzj]
      · cases hz1
end Go.Proofs.Ytkmijefheejcjaa

namespace Go.Proofs.Ytkmijefheejcjaa
set_option maxRecDepth 100000
open Go.RowKit

theorem isWord_le {n : Int} (h : isWord n = true) : decide (n ≤ 65535) = true := by
  have := isWord_iff.1 h
  simp; omega

set_option maxHeartbeats 400000 in
theorem wordC (n : Int) (w : World) : Calls Try.prog 124 #[.int .i64 n] w fun e w' => e = .returned (.bool (isWord n)) ∧ w = w' := by
  by_cases h0 : 0 ≤ n
  · by_cases h1 : n ≤ 65535
    · have H := Lib.hid (isWord_iff.2 ⟨h0, h1⟩)
      go_enter Try.func124, Try.ntmps124
      go_wp2
      go_ret
      exact ⟨ret_bool H.out.symm, rfl⟩
    · have H := Lib.hid (isWord_not.2 (show n < 0 ∨ 65535 < n by omega))
      go_enter Try.func124, Try.ntmps124
      go_wp2
      go_ret
      exact ⟨ret_bool H.out.symm, rfl⟩
  · have H := Lib.hid (isWord_not.2 (show n < 0 ∨ 65535 < n by omega))
    go_enter Try.func124, Try.ntmps124
    go_wp2
    go_ret
    exact ⟨ret_bool H.out.symm, rfl⟩

theorem folded2 {a b : Int} (ha : isWord a = true) (hb : isWord b = true) : folded [a, b] = sadd a b := by
  rw [folded_yes (by simp [ha, hb]), sums, List.foldl_cons, sadd_zero ha]
  rfl

set_option maxHeartbeats 400000 in
theorem specAdd (a b : Int) (w : World) : Calls Try.prog 77 #[.int .i64 a, .int .i64 b] w fun e w' => e = .returned (.int .i64 (folded [a, b])) ∧ w = w' := by
  cases ha : isWord a with
  | true =>
    cases hb : isWord b with
    | true =>
      obtain ⟨a0, a1⟩ := isWord_iff.1 ha
      obtain ⟨b0, b1⟩ := isWord_iff.1 hb
      by_cases hbig : 65535 < a + b
      · have H := Lib.hid (show folded [a, b] = a + b - 65535 by rw [folded2 ha hb, sadd, if_pos hbig])
        go_enter Try.func77, Try.ntmps77
        go_wp2_with (go_at_call 124; refine (wordC _ _).mono ?_; rintro e w' ⟨rfl, rfl⟩)
        go_ret
        exact ⟨ret_int H.out.symm, rfl⟩
      · have H := Lib.hid (show folded [a, b] = a + b by rw [folded2 ha hb, sadd, if_neg hbig])
        go_enter Try.func77, Try.ntmps77
        go_wp2_with (go_at_call 124; refine (wordC _ _).mono ?_; rintro e w' ⟨rfl, rfl⟩)
        go_ret
        exact ⟨ret_int H.out.symm, rfl⟩
    | false =>
      have H := Lib.hid (show folded [a, b] = -1 from folded_no 1 (by simp) hb)
      go_enter Try.func77, Try.ntmps77
      go_wp2_with (go_at_call 124; refine (wordC _ _).mono ?_; rintro e w' ⟨rfl, rfl⟩)
      go_ret
      exact ⟨ret_int H.out.symm, rfl⟩
  | false =>
    have H := Lib.hid (show folded [a, b] = -1 from folded_no 0 (by simp) ha)
    go_enter Try.func77, Try.ntmps77
    go_wp2_with (go_at_call 124; refine (wordC _ _).mono ?_; rintro e w' ⟨rfl, rfl⟩)
    go_ret
    exact ⟨ret_int H.out.symm, rfl⟩

theorem specAddW (a b : Int) (w : World) (ha : isWord a = true) (hb : isWord b = true) : Calls Try.prog 77 #[.int .i64 a, .int .i64 b] w fun e w' => e = .returned (.int .i64 (sadd a b)) ∧ w = w' := by
  have := specAdd a b w
  rwa [folded2 ha hb] at this

set_option maxRecDepth 100000 in
set_option maxHeartbeats 1000000 in
theorem specOnes (A : Option Addr) (n c : Nat) (bs : List UInt8) (w : World) (hr : RB w w.heap.size A bs) (hl : bs.length = n) (hn : n ≤ 1048576) :
    Calls Try.prog 78 #[.slice A n c] w fun e w' => e = .returned (.int .i64 (onesSum bs)) ∧ w = w' := by
  subst hl
  by_cases h : 2000 < bs.length
  · have H := Lib.hid (show onesSum bs = -1 by rw [onesSum, if_pos h])
    go_enter Try.func78, Try.ntmps78
    go_wp2
    go_ret
    exact ⟨ret_int H.out.symm, rfl⟩
  · have H := Lib.hid (show onesSum bs = sums 0 (wordsL bs) by rw [onesSum, if_neg h])
    go_enter Try.func78, Try.ntmps78
    go_wp2
    go_loop [3, 4] (fun s i => ∃ k : Nat, k ≤ bs.length + 1 ∧ k % 2 = 0 ∧ i = .int .i64 k ∧ s = .int .i64 (sums 0 (wordsL (bs.take k)))) (fun _ i => bs.length + 1 - (intOf i).toNat)
    case atStart => exact ⟨0, Nat.zero_le _, rfl, rfl, rfl⟩
    case round =>
      obtain ⟨k, hk, he, rfl, rfl⟩ := hrel
      have hsw := sums_word _ 0 (by decide) (wordsL_word (bs.take k))
      have He := Lib.hid he
      clear he
      by_cases hlt : k < bs.length
      · obtain ⟨g, o, rfl, hg, hc⟩ := hr.at_ hlt
        have hb8 : bs[k].toNat < 256 := UInt8.toNat_lt _
        have hkI : (k : Int) < (bs.length : Int) := by omega
        by_cases hlt2 : k + 1 < bs.length
        · obtain ⟨g', o', hgo, hg', hc'⟩ := hr.at_ hlt2
          injection hgo with hgo
          injection hgo with h1 h2
          subst h1
          subst h2
          have hb9 : bs[k + 1].toNat < 256 := UInt8.toNat_lt _
          have hkJ : (k : Int) + 1 < (bs.length : Int) := by omega
          have hww : isWord (256 * (bs[k].toNat : Int) + bs[k + 1].toNat) = true := isWord_iff.2 (by omega)
          have E := Lib.hid (show sums 0 (wordsL (bs.take (k + 2))) = sadd (sums 0 (wordsL (bs.take k))) (256 * (bs[k].toNat : Int) + bs[k + 1].toNat) by rw [wordsL_odd bs k hlt2 He.out, sums_snoc])
          have Hsw := Lib.hid hsw
          have Hww := Lib.hid hww
          clear hsw hww hr
          go_wp2_with (go_at_call 77; refine (specAddW _ _ _ Hsw.out Hww.out).mono ?_; rintro e w' ⟨rfl, rfl⟩)
          go_round
          case rel => exact ⟨k + 2, by omega, by have := He.out; omega, by go_num, by rw [E.out]⟩
          case measure => simp [intOf]; omega
        · have hkJ : ¬ (k : Int) + 1 < (bs.length : Int) := by omega
          have hww : isWord (256 * (bs[k].toNat : Int)) = true := isWord_iff.2 (by omega)
          have E := Lib.hid (show sums 0 (wordsL (bs.take (k + 2))) = sadd (sums 0 (wordsL (bs.take k))) (256 * (bs[k].toNat : Int)) by
            rw [show bs.take (k + 2) = bs.take (k + 1) by rw [List.take_of_length_le (show bs.length ≤ k + 2 by omega), List.take_of_length_le (show bs.length ≤ k + 1 by omega)], wordsL_even bs k hlt He.out, sums_snoc])
          have Hsw := Lib.hid hsw
          have Hww := Lib.hid hww
          clear hsw hww hr
          go_wp2_with (go_at_call 77; refine (specAddW _ _ _ Hsw.out Hww.out).mono ?_; rintro e w' ⟨rfl, rfl⟩)
          go_round
          case rel => exact ⟨k + 2, by omega, by have := He.out; omega, by go_num, by rw [E.out]⟩
          case measure => simp [intOf]; omega
      · have e : bs.take k = bs := List.take_of_length_le (by omega)
        rw [e]
        clear hsw hr
        go_wp2
        go_ret
        exact ⟨ret_int H.out.symm, rfl⟩





end Go.Proofs.Ytkmijefheejcjaa

namespace Go.Proofs.Ytkmijefheejcjaa
set_option maxRecDepth 100000
open Go.RowKit

set_option maxHeartbeats 400000 in
theorem compC (n : Int) (w : World) : Calls Try.prog 85 #[.int .i64 n] w fun e w' => e = .returned (.int .i64 (comp n)) ∧ w = w' := by
  cases h : isWord n with
  | true =>
    have H := Lib.hid (comp_yes h)
    have hr := isWord_iff.1 h
    obtain ⟨r1, r2⟩ := hr
    clear h
    go_enter Try.func85, Try.ntmps85
    go_wp2_with (go_at_call 102; refine (within_yes _ _ _ _ (by omega) (by omega)).mono ?_; rintro e w' ⟨rfl, rfl⟩)
    go_ret
    exact ⟨ret_int H.out.symm, rfl⟩
  | false =>
    have H := Lib.hid (comp_no h)
    have hr := Lib.hid (isWord_not.1 h)
    clear h
    go_enter Try.func85, Try.ntmps85
    go_wp2_with (go_at_call 102; refine (within_no _ _ _ _ hr.out).mono ?_; rintro e w' ⟨rfl, rfl⟩)
    go_ret
    exact ⟨ret_int H.out.symm, rfl⟩

set_option maxHeartbeats 1000000 in
theorem foldedC (A : Option Addr) (n c : Nat) (ws : List Int) (w : World) (hr : RV w w.heap.size A (intsOf ws)) (hl : ws.length = n) (hn : n ≤ 1048576) :
    Calls Try.prog 86 #[.slice A n c] w fun e w' => e = .returned (.int .i64 (folded ws)) ∧ w = w' := by
  subst hl
  go_enter Try.func86, Try.ntmps86
  go_wp2
  go_loop [3, 8] (fun s i => ∃ k : Nat, k ≤ ws.length ∧ i = .int .i64 k ∧ (ws.take k).all isWord = true ∧ s = .int .i64 (sums 0 (ws.take k))) (fun _ i => ws.length - (intOf i).toNat)
  case atStart => exact ⟨0, Nat.zero_le _, rfl, rfl, rfl⟩
  case round =>
    obtain ⟨k, hk, rfl, hall, rfl⟩ := hrel
    by_cases hlt : k < ws.length
    · obtain ⟨g, o, rfl, hg, hc⟩ := hr.int hlt
      obtain ⟨s0, s1⟩ := isWord_iff.1 (sums_word _ 0 (by decide) hall)
      cases hx : isWord ws[k] with
      | true =>
        obtain ⟨x0, x1⟩ := isWord_iff.1 hx
        have Hall := Lib.hid (all_take_snoc ws k hlt hall hx)
        have Hs := Lib.hid (show sums 0 (ws.take (k + 1)) = sadd (sums 0 (ws.take k)) ws[k] by rw [take_snoc ws k hlt, sums_snoc])
        obtain ⟨s, hs⟩ : ∃ s, s = sums 0 (ws.take k) := ⟨_, rfl⟩
        obtain ⟨x, hx'⟩ : ∃ x, x = ws[k] := ⟨_, rfl⟩
        rw [← hs, ← hx'] at Hs
        rw [← hs] at s0 s1
        rw [← hx'] at x0 x1 hc
        rw [← hs]
        clear hs hx hx' hall hr
        by_cases hbig : 65535 < s + x
        · have e := Lib.hid (show sadd s x = s + x - 65535 by rw [sadd, if_pos hbig])
          go_wp2_with (go_at_call 102; refine (within_yes _ _ _ _ (by omega) (by omega)).mono ?_; rintro e w' ⟨rfl, rfl⟩)
          go_round
          case rel => exact ⟨k + 1, by omega, by go_num, Hall.out, by rw [Hs.out, e.out]⟩
          case measure => simp [intOf]; omega
        · have e := Lib.hid (show sadd s x = s + x by rw [sadd, if_neg hbig])
          go_wp2_with (go_at_call 102; refine (within_yes _ _ _ _ (by omega) (by omega)).mono ?_; rintro e w' ⟨rfl, rfl⟩)
          go_round
          case rel => exact ⟨k + 1, by omega, by go_num, Hall.out, by rw [Hs.out, e.out]⟩
          case measure => simp [intOf]; omega
      | false =>
        have H := Lib.hid (folded_no k hlt hx)
        have hno := Lib.hid (isWord_not.1 hx)
        clear hall hx hr
        go_wp2_with (go_at_call 102; refine (within_no _ _ _ _ hno.out).mono ?_; rintro e w' ⟨rfl, rfl⟩)
        go_ret
        exact ⟨ret_int H.out.symm, rfl⟩
    · obtain rfl : k = ws.length := by omega
      rw [List.take_length] at hall
      have H := Lib.hid (folded_yes hall)
      rw [List.take_length]
      clear hall
      go_wp2
      go_ret
      exact ⟨ret_int H.out.symm, rfl⟩

/-- The row of words as it is being filled. -/
def wRow (bs : List UInt8) (k : Nat) : List Int := wordsL (bs.take k) ++ List.replicate ((bs.length + 1) / 2 - (k + 1) / 2) 0
theorem wRow_zero (bs : List UInt8) : wRow bs 0 = List.replicate ((bs.length + 1) / 2) 0 := by simp [wRow, wordsL]
theorem wRow_full (bs : List UInt8) : wRow bs bs.length = wordsL bs := by simp [wRow]
theorem wRow_length (bs : List UInt8) (k : Nat) (h : k ≤ bs.length) : (wRow bs k).length = (bs.length + 1) / 2 := by
  rw [wRow, List.length_append, wordsL_length, List.length_replicate, List.length_take, Nat.min_eq_left h]
  omega
theorem wRow_even (bs : List UInt8) (k : Nat) (h : k < bs.length) (he : k % 2 = 0) :
    (intsOf (wRow bs k)).set (k / 2) (.int .i64 ((bs[k].toNat : Int) * 256)) = intsOf (wRow bs (k + 1)) := by
  rw [wRow, wRow, show (bs.length + 1) / 2 - (k + 1) / 2 = ((bs.length + 1) / 2 - (k + 1 + 1) / 2) + 1 by omega, List.replicate_succ, int_fill _ _ _ _ (k / 2) (by rw [wordsL_length, List.length_take]; omega), wordsL_even bs k h he, Int.mul_comm]
theorem wRow_get (bs : List UInt8) (k : Nat) (h : k < bs.length) (he : k % 2 = 1) : (wRow bs k)[k / 2]? = some (256 * (bs[k - 1].toNat : Int)) := by
  have e := wordsL_even bs (k - 1) (by omega) (by omega)
  rw [show k - 1 + 1 = k by omega] at e
  rw [wRow, e, List.append_assoc, List.getElem?_append_right (by rw [wordsL_length, List.length_take]; omega), wordsL_length, List.length_take, show k / 2 - (min (k - 1) bs.length + 1) / 2 = 0 by omega]
  rfl
theorem wRow_odd (bs : List UInt8) (k : Nat) (h : k < bs.length) (he : k % 2 = 1) :
    (intsOf (wRow bs k)).set (k / 2) (.int .i64 ((bs[k - 1].toNat : Int) * 256 + bs[k].toNat)) = intsOf (wRow bs (k + 1)) := by
  have e := wordsL_even bs (k - 1) (by omega) (by omega)
  have e2 := wordsL_odd bs (k - 1) (by omega) (by omega)
  have e3 : bs[k - 1 + 1]'(by omega) = bs[k] := by congr 1; omega
  rw [show k - 1 + 1 = k by omega] at e
  rw [e3, show k - 1 + 2 = k + 1 by omega] at e2
  rw [wRow, wRow, e, e2, show (k + 1 + 1) / 2 = (k + 1) / 2 by omega, List.append_assoc, List.singleton_append, int_fill _ _ _ _ (k / 2) (by rw [wordsL_length, List.length_take]; omega), Int.mul_comm]

set_option maxRecDepth 100000 in
set_option maxHeartbeats 1000000 in
theorem wordsOfC (A : Option Addr) (c : Nat) (bs : List UInt8) (w : World) (hr : RB w w.heap.size A bs) (hn : bs.length ≤ 1048576) :
    Calls Try.prog 129 #[.slice A bs.length c] w fun e w' => e = .returned (.slice (some ⟨w.heap.size, 0, none⟩) ((bs.length + 1) / 2) ((bs.length + 1) / 2)) ∧
      w'.ownsRow w.heap.size 3 1 (.slice (some ⟨w.heap.size, 0, none⟩) ((bs.length + 1) / 2) ((bs.length + 1) / 2)) ((bs.length + 1) / 2) (intsOf (wordsL bs)) ∧ Below w.heap.size w w' := by
  obtain ⟨i0, hi0, hz0, hz1, hz2⟩ := info_parts info_int
  go_enter Try.func129, Try.ntmps129
  go_wp2_with (at_make; refine wpList_make_full _ rfl _ _ 43 rfl w.heap.size 3 i0 (.int .i64 0) 1 Try.underlying43 hi0 hz0 hz1 _ _ _ _ ((bs.length + 1) / 2) rfl rfl (by omega) (by omega) (by rw [hz2]; omega) (by unfold maxLen; omega) (Nat.le_refl _) ?_; intro w1 hown hgrow)
  have hown0 : w1.ownsRow w.heap.size 3 1 (.slice (some ⟨w.heap.size, 0, none⟩) ((bs.length + 1) / 2) ((bs.length + 1) / 2)) ((bs.length + 1) / 2) (intsOf (wRow bs 0)) := by
    have e : (madeCells (Value.int IntKind.i64 0).cells ((bs.length + 1) / 2 * 1)).toList = intsOf (wRow bs 0) := by
      rw [wRow_zero]
      have := toList_madeCells_one (.int .i64 0) ((bs.length + 1) / 2)
      simpa [Value.cells, intsOf] using this
    rw [← e]; exact hown
  have hb1 : Below w.heap.size w w1 := (Below.refl _ _).grown hgrow (Nat.le_refl _) (by simp)
  clear hown hgrow
  go_loopw [13] (fun i wr => ∃ k : Nat, k ≤ bs.length ∧ i = .int .i64 k ∧ wr.ownsRow w.heap.size 3 1 (.slice (some ⟨w.heap.size, 0, none⟩) ((bs.length + 1) / 2) ((bs.length + 1) / 2)) ((bs.length + 1) / 2) (intsOf (wRow bs k)) ∧ Below w.heap.size w wr) (fun i _ => bs.length - (intOf i).toNat)
  case atStart => exact ⟨0, Nat.zero_le _, rfl, hown0, hb1⟩
  case round =>
    obtain ⟨k, hk, rfl, ho, hb⟩ := hrel
    clear hown0 hb1
    by_cases hlt : k < bs.length
    · obtain ⟨g, o, rfl, hg, hc0⟩ := hr.at_ hlt
      have hc : wr.cell? ⟨g, o + k, none⟩ = some (.int .u8 (bs[k].toNat : Int)) := (hb.cell (p := ⟨g, o + k, none⟩) hg).trans hc0
      have hb8 : bs[k].toNat < 256 := UInt8.toNat_lt _
      have hi2 : k / 2 < (bs.length + 1) / 2 := by omega
      have hfz := ho.frozenAt (k / 2)
      by_cases he : k % 2 = 0
      · have het : ((k : Int) % 2 == 0) = true := by simp; omega
        obtain ⟨u, hu⟩ : ∃ u, wr.cell? ⟨w.heap.size, k / 2, none⟩ = some u := by
          rw [ho.cellAt (k / 2) (by omega)]
          exact ⟨_, List.getElem?_eq_getElem (by rw [intsOf_length, wRow_length bs k hk]; omega)⟩
        have R := ho.stored (k / 2) (.int .i64 ((bs[k].toNat : Int) * 256))
        rw [wRow_even bs k hlt he] at R
        have R1 := Lib.hid R.1
        have R2 := Lib.hid (hb.setCell (p := ⟨w.heap.size, k / 2, none⟩) (Nat.le_refl _) (.int .i64 ((bs[k].toNat : Int) * 256)))
        clear R ho hc0 hr hb he
        go_wp2
        go_roundw
        case rel => exact ⟨k + 1, by omega, by go_num, R1.out, R2.out⟩
        case measure => simp [intOf]; omega
      · have hef : ((k : Int) % 2 == 0) = false := by simp; omega
        have hb7 : (bs[k - 1]'(by omega)).toNat < 256 := UInt8.toNat_lt _
        have hcell : wr.cell? ⟨w.heap.size, k / 2, none⟩ = some (.int .i64 ((bs[k - 1].toNat : Int) * 256)) := by
          rw [ho.cellAt (k / 2) (by omega), intsOf_get _ _ _ (wRow_get bs k hlt (by omega)), Int.mul_comm]
        have hor := or_byte (bs[k - 1]'(by omega)).toNat bs[k].toNat (by omega) hb8
        have R := ho.stored (k / 2) (.int .i64 ((bs[k - 1].toNat : Int) * 256 + bs[k].toNat))
        rw [wRow_odd bs k hlt (by omega)] at R
        have R1 := Lib.hid R.1
        have R2 := Lib.hid (hb.setCell (p := ⟨w.heap.size, k / 2, none⟩) (Nat.le_refl _) (.int .i64 ((bs[k - 1].toNat : Int) * 256 + bs[k].toNat)))
        clear R ho hc0 hr hb he
        go_wp2
        go_roundw
        case rel => exact ⟨k + 1, by omega, by go_num, R1.out, R2.out⟩
        case measure => simp [intOf]; omega
    · obtain rfl : k = bs.length := by omega
      rw [wRow_full] at ho
      have Ho := Lib.hid ho
      clear ho
      go_wp2
      go_ret
      exact ⟨rfl, Ho.out, hb⟩

set_option maxHeartbeats 400000 in
theorem implOnes (A : Option Addr) (n c : Nat) (bs : List UInt8) (w : World) (hr : RB w w.heap.size A bs) (hl : bs.length = n) (hn : n ≤ 1048576) :
    Calls Try.prog 88 #[.slice A n c] w fun e w' => e = .returned (.int .i64 (onesSum bs)) ∧ Below w.heap.size w w' := by
  subst hl
  by_cases h : 2000 < bs.length
  · have H := Lib.hid (show onesSum bs = -1 by rw [onesSum, if_pos h])
    go_enter Try.func88, Try.ntmps88
    go_wp2
    go_ret
    exact ⟨ret_int H.out.symm, Below.refl _ _⟩
  · have H := Lib.hid (show onesSum bs = folded (wordsL bs) by rw [onesSum, if_neg h, folded_yes (wordsL_word bs)])
    have hl := wordsL_length bs
    go_enter Try.func88, Try.ntmps88
    go_wp2_with fail
    refine (wordsOfC A c bs w hr hn).mono ?_
    rintro e w1 ⟨rfl, o1, b1⟩
    go_wp2_with fail
    refine (foldedC _ _ _ (wordsL bs) w1 (RV.of_own o1) hl (by omega)).mono ?_
    rintro e w2 ⟨rfl, rfl⟩
    go_wp2
    go_ret
    exact ⟨ret_int H.out.symm, b1⟩







end Go.Proofs.Ytkmijefheejcjaa

namespace Go.Proofs.Ytkmijefheejcjaa
set_option maxRecDepth 100000
open Go.RowKit























end Go.Proofs.Ytkmijefheejcjaa
