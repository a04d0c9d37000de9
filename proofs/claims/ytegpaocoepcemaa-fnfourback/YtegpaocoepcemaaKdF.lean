/-
  Bytes as a string: the conversion of a slice that reads as a list of bytes. The laws' own comparison of two IPv4 packets by their texts. The laws' own way to pick a number.
-/
import Derived.Test.YtegpaocoepcemaaApp
import Derived.Laws.BytesArg
import Derived.Test.YtegpaocoepcemaaFour
import Derived.Test.YtegpaocoepcemaaCur3
namespace Go.Proofs.Ytegpaocoepcemaa
open Go.RowKit

def strOf (bs : List UInt8) : ByteArray := ⟨bs.toArray⟩
theorem strOf_size (bs : List UInt8) : (strOf bs).size = bs.length := by simp [strOf, ByteArray.size]
theorem strOf_data (bs : List UInt8) : (strOf bs).data.toList = bs := rfl
theorem strOf_toList (s : ByteArray) : strOf s.data.toList = s := rfl

theorem conv_b (w : World) (B : Nat) (A : Option Addr) (n c : Nat) (bs : List UInt8) (hl : bs.length = n) (hr : RB w B A bs) :
    (convert 28 9 (.slice A n c)).run Try.prog w = .ok (.string (strOf bs)) w := by
  subst hl
  rcases bs with _ | ⟨b, bs⟩
  · rcases A with _ | a
    · exact run_convert_bytes_nil w 28 5 Try.underlying28 Try.underlying5 _ c 9 Try.underlying9
    · rw [run_convert_bytes_string w 28 9 5 _ _ c Try.underlying28 Try.underlying5 Try.underlying9]
      have h := run_bytesToString (P := Try.prog) w a 0 c [] (by
        have := run_loadCells_list (P := Try.prog) w a [] (fun j v hj => by simp at hj)
        simpa using this)
      exact h
  · generalize hbs : b :: bs = l at *
    obtain ⟨g, o, rfl, _, hc⟩ := hr (by rw [← hbs]; simp)
    have h := run_convert_bytes_arg (P := Try.prog) w 28 5 Try.underlying28 Try.underlying5 g o l.length c (l.map fun u => (u.toNat : Int)) (by simp) (fun i hi => by
      rw [hc i _ (List.getElem?_eq_getElem hi)]
      simp [hi]) 9 Try.underlying9
    rw [h]
    have e : strOfNums (l.map fun u => (u.toNat : Int)) = strOf l := by simp [strOfNums, strOf, Function.comp_def]
    rw [e]
end Go.Proofs.Ytegpaocoepcemaa

namespace Go.Proofs.Ytegpaocoepcemaa
set_option maxRecDepth 100000
open Go.RowKit

set_option maxRecDepth 100000 in
set_option maxHeartbeats 2000000 in
theorem sameFourC (x : Fh) (A D E G : Option Addr) (n c m d e g : Nat) (os bs : List UInt8) (w : World) (hx : RB w w.heap.size A os) (hy : RB w w.heap.size E os) (hl : os.length = n) (hz : RB w w.heap.size D bs) (hu : RB w w.heap.size G bs) (hm : bs.length = m) :
    Calls Try.prog 39 #[.agg #[.int .i64 x.dscp, .int .i64 x.ecn, .int .i64 x.id, .int .i64 x.flags, .int .i64 x.frag, .int .i64 x.ttl, .int .i64 x.proto, .int .i64 x.src.k, .int .i64 x.src.a, .int .i64 x.src.b, .int .i64 x.src.c, .int .i64 x.src.d, .int .i64 x.dst.k, .int .i64 x.dst.a, .int .i64 x.dst.b, .int .i64 x.dst.c, .int .i64 x.dst.d, .slice A n c, .slice D m d], .agg #[.int .i64 x.dscp, .int .i64 x.ecn, .int .i64 x.id, .int .i64 x.flags, .int .i64 x.frag, .int .i64 x.ttl, .int .i64 x.proto, .int .i64 x.src.k, .int .i64 x.src.a, .int .i64 x.src.b, .int .i64 x.src.c, .int .i64 x.src.d, .int .i64 x.dst.k, .int .i64 x.dst.a, .int .i64 x.dst.b, .int .i64 x.dst.c, .int .i64 x.dst.d, .slice E n e, .slice G m g]] w fun e w' => e = .returned (.bool true) ∧ Below w.heap.size w w' := by
  have hA := conv_b ((w.alloc (.cells #[.int .i64 x.dscp, .int .i64 x.ecn, .int .i64 x.id, .int .i64 x.flags, .int .i64 x.frag, .int .i64 x.ttl, .int .i64 x.proto, .int .i64 x.src.k, .int .i64 x.src.a, .int .i64 x.src.b, .int .i64 x.src.c, .int .i64 x.src.d, .int .i64 x.dst.k, .int .i64 x.dst.a, .int .i64 x.dst.b, .int .i64 x.dst.c, .int .i64 x.dst.d, .slice A n c, .slice D m d] 52)).alloc (.cells #[.int .i64 x.dscp, .int .i64 x.ecn, .int .i64 x.id, .int .i64 x.flags, .int .i64 x.frag, .int .i64 x.ttl, .int .i64 x.proto, .int .i64 x.src.k, .int .i64 x.src.a, .int .i64 x.src.b, .int .i64 x.src.c, .int .i64 x.src.d, .int .i64 x.dst.k, .int .i64 x.dst.a, .int .i64 x.dst.b, .int .i64 x.dst.c, .int .i64 x.dst.d, .slice E n e, .slice G m g] 52)) w.heap.size A n c os hl (hx.below (Joins.below_alloc2 w _ _))
  have hE := conv_b ((w.alloc (.cells #[.int .i64 x.dscp, .int .i64 x.ecn, .int .i64 x.id, .int .i64 x.flags, .int .i64 x.frag, .int .i64 x.ttl, .int .i64 x.proto, .int .i64 x.src.k, .int .i64 x.src.a, .int .i64 x.src.b, .int .i64 x.src.c, .int .i64 x.src.d, .int .i64 x.dst.k, .int .i64 x.dst.a, .int .i64 x.dst.b, .int .i64 x.dst.c, .int .i64 x.dst.d, .slice A n c, .slice D m d] 52)).alloc (.cells #[.int .i64 x.dscp, .int .i64 x.ecn, .int .i64 x.id, .int .i64 x.flags, .int .i64 x.frag, .int .i64 x.ttl, .int .i64 x.proto, .int .i64 x.src.k, .int .i64 x.src.a, .int .i64 x.src.b, .int .i64 x.src.c, .int .i64 x.src.d, .int .i64 x.dst.k, .int .i64 x.dst.a, .int .i64 x.dst.b, .int .i64 x.dst.c, .int .i64 x.dst.d, .slice E n e, .slice G m g] 52)) w.heap.size E n e os hl (hy.below (Joins.below_alloc2 w _ _))
  have hD := conv_b ((w.alloc (.cells #[.int .i64 x.dscp, .int .i64 x.ecn, .int .i64 x.id, .int .i64 x.flags, .int .i64 x.frag, .int .i64 x.ttl, .int .i64 x.proto, .int .i64 x.src.k, .int .i64 x.src.a, .int .i64 x.src.b, .int .i64 x.src.c, .int .i64 x.src.d, .int .i64 x.dst.k, .int .i64 x.dst.a, .int .i64 x.dst.b, .int .i64 x.dst.c, .int .i64 x.dst.d, .slice A n c, .slice D m d] 52)).alloc (.cells #[.int .i64 x.dscp, .int .i64 x.ecn, .int .i64 x.id, .int .i64 x.flags, .int .i64 x.frag, .int .i64 x.ttl, .int .i64 x.proto, .int .i64 x.src.k, .int .i64 x.src.a, .int .i64 x.src.b, .int .i64 x.src.c, .int .i64 x.src.d, .int .i64 x.dst.k, .int .i64 x.dst.a, .int .i64 x.dst.b, .int .i64 x.dst.c, .int .i64 x.dst.d, .slice E n e, .slice G m g] 52)) w.heap.size D m d bs hm (hz.below (Joins.below_alloc2 w _ _))
  have hG := conv_b ((w.alloc (.cells #[.int .i64 x.dscp, .int .i64 x.ecn, .int .i64 x.id, .int .i64 x.flags, .int .i64 x.frag, .int .i64 x.ttl, .int .i64 x.proto, .int .i64 x.src.k, .int .i64 x.src.a, .int .i64 x.src.b, .int .i64 x.src.c, .int .i64 x.src.d, .int .i64 x.dst.k, .int .i64 x.dst.a, .int .i64 x.dst.b, .int .i64 x.dst.c, .int .i64 x.dst.d, .slice A n c, .slice D m d] 52)).alloc (.cells #[.int .i64 x.dscp, .int .i64 x.ecn, .int .i64 x.id, .int .i64 x.flags, .int .i64 x.frag, .int .i64 x.ttl, .int .i64 x.proto, .int .i64 x.src.k, .int .i64 x.src.a, .int .i64 x.src.b, .int .i64 x.src.c, .int .i64 x.src.d, .int .i64 x.dst.k, .int .i64 x.dst.a, .int .i64 x.dst.b, .int .i64 x.dst.c, .int .i64 x.dst.d, .slice E n e, .slice G m g] 52)) w.heap.size G m g bs hm (hu.below (Joins.below_alloc2 w _ _))
  clear hx hy hl hz hu hm
  go_enter Try.func39, Try.ntmps39
  go_wp2
  go_ret
  exact ⟨rfl, by go_grown⟩
end Go.Proofs.Ytegpaocoepcemaa

namespace Go.Proofs.Ytegpaocoepcemaa
set_option maxRecDepth 100000
open Go.RowKit

def pbW : Nat → Int
  | 0 => 0
  | 1 => 255
  | 2 => 8160
  | _ => 253215
theorem pb_stepW : ∀ k : Nat, k < 3 → 31 * pbW k + 255 ≤ pbW (k + 1)
  | 0, _ => by decide
  | 1, _ => by decide
  | 2, _ => by decide
  | _ + 3, h => by omega
theorem pb_leW : ∀ k : Nat, pbW k ≤ 253215
  | 0 => by decide
  | 1 => by decide
  | 2 => by decide
  | _ + 3 => Int.le_refl _

def pickSW (bs : List UInt8) (at_ : Int) : Nat → Int
  | 0 => 0
  | k + 1 => 31 * pickSW bs at_ k + (bs.getD ((at_ + k) % (bs.length : Int)).toNat 0).toNat
theorem pickS_rangeW (bs : List UInt8) (at_ : Int) : ∀ k : Nat, k ≤ 3 → 0 ≤ pickSW bs at_ k ∧ pickSW bs at_ k ≤ pbW k
  | 0, _ => ⟨Int.le_refl _, Int.le_refl _⟩
  | k + 1, h => by
    have h1 := pickS_rangeW bs at_ k (by omega)
    have h2 := pb_stepW k (by omega)
    have h3 := UInt8.toNat_lt (bs.getD ((at_ + k) % (bs.length : Int)).toNat 0)
    simp only [pickSW]
    omega
/-- The number that the laws pick out of the code. -/
def pickVW (bs : List UInt8) (at_ m : Int) : Int := if bs.length = 0 ∨ m < 2 then 0 else (pickSW bs at_ 3 + at_) % m
theorem pickV_rangeW (bs : List UInt8) (at_ m : Int) (hm : 1 ≤ m) : 0 ≤ pickVW bs at_ m ∧ pickVW bs at_ m ≤ m - 1 := by
  unfold pickVW
  split
  · omega
  · exact emod_range _ m hm

set_option maxRecDepth 100000 in
set_option maxHeartbeats 1000000 in
theorem pickLW (A : Option Addr) (n c : Nat) (bs : List UInt8) (at_ m : Int) (w : World) (hr : RB w w.heap.size A bs) (hl : bs.length = n) (hn : n ≤ 1048576) (h0 : 0 ≤ at_) (h1 : at_ ≤ 1000) (hm : 1 ≤ m) (hm2 : m ≤ 1048576) :
    Calls Try.prog 32 #[.slice A n c, .int .i64 at_, .int .i64 m] w fun e w' => e = .returned (.int .i64 (pickVW bs at_ m)) ∧ w = w' := by
  subst hl
  by_cases hz : bs.length = 0
  · have hzI : ((bs.length : Int) == 0) = true := by rw [beq_iff_eq]; omega
    have H := Lib.hid (show pickVW bs at_ m = 0 by rw [pickVW, if_pos (.inl hz)])
    go_enter Try.func32, Try.ntmps32
    go_wp2
    go_ret
    exact ⟨ret_int H.out.symm, rfl⟩
  · have hzI : ((bs.length : Int) == 0) = false := by rw [beq_eq_false_iff_ne]; omega
    by_cases hm1 : m < 2
    · have H := Lib.hid (show pickVW bs at_ m = 0 by rw [pickVW, if_pos (.inr hm1)])
      go_enter Try.func32, Try.ntmps32
      go_wp2
      go_ret
      exact ⟨ret_int H.out.symm, rfl⟩
    · have H := Lib.hid (show pickVW bs at_ m = (pickSW bs at_ 3 + at_) % m by rw [pickVW, if_neg (by omega)])
      go_enter Try.func32, Try.ntmps32
      go_wp2
      go_loop [7, 8] (fun x i => ∃ k : Nat, k ≤ 3 ∧ i = .int .i64 k ∧ x = .int .i64 (pickSW bs at_ k)) (fun _ i => 3 - (intOf i).toNat)
      case atStart => exact ⟨0, Nat.zero_le _, rfl, rfl⟩
      case round =>
        obtain ⟨k, hk, rfl, rfl⟩ := hrel
        obtain ⟨z0, z1⟩ := pickS_rangeW bs at_ k hk
        have z2 := pb_leW k
        by_cases hlt : k < 3
        · have hp := Int.emod_lt_of_pos (at_ + (k : Int)) (show (0 : Int) < (bs.length : Int) by omega)
          have hq := Int.emod_nonneg (at_ + (k : Int)) (show (bs.length : Int) ≠ 0 by omega)
          obtain ⟨r, hrr, hre⟩ : ∃ r : Nat, r < bs.length ∧ (at_ + (k : Int)) % (bs.length : Int) = r := ⟨((at_ + (k : Int)) % (bs.length : Int)).toNat, by omega, by omega⟩
          have E := Lib.hid (show pickSW bs at_ (k + 1) = 31 * pickSW bs at_ k + (bs[r].toNat : Int) by
            rw [pickSW, hre, Int.toNat_natCast, List.getD_eq_getElem?_getD, List.getElem?_eq_getElem hrr]
            rfl)
          have hmod : (at_ + (k : Int)).tmod (bs.length : Int) = r := by rw [Int.tmod_eq_emod_of_nonneg (by omega), hre]
          obtain ⟨g, o, rfl, hg, hc⟩ := hr.at_ hrr
          have hb8 : bs[r].toNat < 256 := UInt8.toNat_lt _
          have hrI : (r : Int) < (bs.length : Int) := by omega
          have hr0 : (0 : Int) ≤ (r : Int) := by omega
          have hne0 : ¬ (bs.length : Int) = 0 := by omega
          clear hr hp hq hre
          go_wp2
          go_round
          case rel => exact ⟨k + 1, by omega, by go_num, by rw [E.out]⟩
          case measure => simp [intOf]; omega
        · obtain rfl : k = 3 := by omega
          have hmn : ¬ m = 0 := by omega
          go_wp2
          go_ret
          exact ⟨ret_int H.out.symm, rfl⟩
end Go.Proofs.Ytegpaocoepcemaa
