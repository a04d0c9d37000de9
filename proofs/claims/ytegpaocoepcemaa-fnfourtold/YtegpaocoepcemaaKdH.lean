/-
  The laws' own way to pick a number. A region that draws its order, the first operations of which leave a value each, or a slice of bytes that can be read, and touch nothing that was there before; the others follow in their order. Plain: any program.
-/
import Derived.Test.YtegpaocoepcemaaCur3
import Derived.Test.YtegpaocoepcemaaRegThen
import Derived.Test.YtegpaocoepcemaaBytesOf
namespace Go.Proofs.Ytegpaocoepcemaa
set_option maxRecDepth 100000
open Go.RowKit

def pbW : Nat → Int
  | 0 => 0
  | 1 => 255
  | 2 => 8160
  | _ => 253215
theorem pb_stepW : ∀ k : Nat, k < 3 → 31 * pbW k + 255 ≤ pbW (k + 1)
  | 0, _ => by decide
  | 1, _ => by decide
  | 2, _ => by decide
  | _ + 3, h => by omega
theorem pb_leW : ∀ k : Nat, pbW k ≤ 253215
  | 0 => by decide
  | 1 => by decide
  | 2 => by decide
  | _ + 3 => Int.le_refl _

def pickSW (bs : List UInt8) (at_ : Int) : Nat → Int
  | 0 => 0
  | k + 1 => 31 * pickSW bs at_ k + (bs.getD ((at_ + k) % (bs.length : Int)).toNat 0).toNat
theorem pickS_rangeW (bs : List UInt8) (at_ : Int) : ∀ k : Nat, k ≤ 3 → 0 ≤ pickSW bs at_ k ∧ pickSW bs at_ k ≤ pbW k
  | 0, _ => ⟨Int.le_refl _, Int.le_refl _⟩
  | k + 1, h => by
    have h1 := pickS_rangeW bs at_ k (by omega)
    have h2 := pb_stepW k (by omega)
    have h3 := UInt8.toNat_lt (bs.getD ((at_ + k) % (bs.length : Int)).toNat 0)
    simp only [pickSW]
    omega
/-- The number that the laws pick out of the code. -/
def pickVW (bs : List UInt8) (at_ m : Int) : Int := if bs.length = 0 ∨ m < 2 then 0 else (pickSW bs at_ 3 + at_) % m
theorem pickV_rangeW (bs : List UInt8) (at_ m : Int) (hm : 1 ≤ m) : 0 ≤ pickVW bs at_ m ∧ pickVW bs at_ m ≤ m - 1 := by
  unfold pickVW
  split
  · omega
  · exact emod_range _ m hm

set_option maxRecDepth 100000 in
set_option maxHeartbeats 1000000 in
theorem pickLW (A : Option Addr) (n c : Nat) (bs : List UInt8) (at_ m : Int) (w : World) (hr : RB w w.heap.size A bs) (hl : bs.length = n) (hn : n ≤ 1048576) (h0 : 0 ≤ at_) (h1 : at_ ≤ 1000) (hm : 1 ≤ m) (hm2 : m ≤ 1048576) :
    Calls Try.prog 32 #[.slice A n c, .int .i64 at_, .int .i64 m] w fun e w' => e = .returned (.int .i64 (pickVW bs at_ m)) ∧ w = w' := by
  subst hl
  by_cases hz : bs.length = 0
  · have hzI : ((bs.length : Int) == 0) = true := by rw [beq_iff_eq]; omega
    have H := Lib.hid (show pickVW bs at_ m = 0 by rw [pickVW, if_pos (.inl hz)])
    go_enter Try.func32, Try.ntmps32
    go_wp2
    go_ret
    exact ⟨ret_int H.out.symm, rfl⟩
  · have hzI : ((bs.length : Int) == 0) = false := by rw [beq_eq_false_iff_ne]; omega
    by_cases hm1 : m < 2
    · have H := Lib.hid (show pickVW bs at_ m = 0 by rw [pickVW, if_pos (.inr hm1)])
      go_enter Try.func32, Try.ntmps32
      go_wp2
      go_ret
      exact ⟨ret_int H.out.symm, rfl⟩
    · have H := Lib.hid (show pickVW bs at_ m = (pickSW bs at_ 3 + at_) % m by rw [pickVW, if_neg (by omega)])
      go_enter Try.func32, Try.ntmps32
      go_wp2
      go_loop [7, 8] (fun x i => ∃ k : Nat, k ≤ 3 ∧ i = .int .i64 k ∧ x = .int .i64 (pickSW bs at_ k)) (fun _ i => 3 - (intOf i).toNat)
      case atStart => exact ⟨0, Nat.zero_le _, rfl, rfl⟩
      case round =>
        obtain ⟨k, hk, rfl, rfl⟩ := hrel
        obtain ⟨z0, z1⟩ := pickS_rangeW bs at_ k hk
        have z2 := pb_leW k
        by_cases hlt : k < 3
        · have hp := Int.emod_lt_of_pos (at_ + (k : Int)) (show (0 : Int) < (bs.length : Int) by omega)
          have hq := Int.emod_nonneg (at_ + (k : Int)) (show (bs.length : Int) ≠ 0 by omega)
          obtain ⟨r, hrr, hre⟩ : ∃ r : Nat, r < bs.length ∧ (at_ + (k : Int)) % (bs.length : Int) = r := ⟨((at_ + (k : Int)) % (bs.length : Int)).toNat, by omega, by omega⟩
          have E := Lib.hid (show pickSW bs at_ (k + 1) = 31 * pickSW bs at_ k + (bs[r].toNat : Int) by
            rw [pickSW, hre, Int.toNat_natCast, List.getD_eq_getElem?_getD, List.getElem?_eq_getElem hrr]
            rfl)
          have hmod : (at_ + (k : Int)).tmod (bs.length : Int) = r := by rw [Int.tmod_eq_emod_of_nonneg (by omega), hre]
          obtain ⟨g, o, rfl, hg, hc⟩ := hr.at_ hrr
          have hb8 : bs[r].toNat < 256 := UInt8.toNat_lt _
          have hrI : (r : Int) < (bs.length : Int) := by omega
          have hr0 : (0 : Int) ≤ (r : Int) := by omega
          have hne0 : ¬ (bs.length : Int) = 0 := by omega
          clear hr hp hq hre
          go_wp2
          go_round
          case rel => exact ⟨k + 1, by omega, by go_num, by rw [E.out]⟩
          case measure => simp [intOf]; omega
        · obtain rfl : k = 3 := by omega
          have hmn : ¬ m = 0 := by omega
          go_wp2
          go_ret
          exact ⟨ret_int H.out.symm, rfl⟩
end Go.Proofs.Ytegpaocoepcemaa

namespace Go.Proofs.Ytegpaocoepcemaa
set_option maxRecDepth 100000
open Go.RowKit

/-- What an operation leaves: a value; a slice of n bytes that reads as bs; anything. -/
inductive Fc where
  | val (v : Value)
  | rb (n : Nat) (bs : List UInt8)
  | any
def Fc.holds : Fc → World → Value → Prop
  | .val u, _, v => v = u
  | .rb n bs, w, v => ∃ A c, v = .slice A n c ∧ RB w w.heap.size A bs
  | .any, _, _ => True
theorem Fc.on {w w' : World} (hb : Below w.heap.size w w') (f : Fc) (v : Value) (h : f.holds w v) : f.holds w' v := by
  cases f with
  | val u => exact h
  | rb n bs =>
    obtain ⟨A, c, e, r⟩ := h
    exact ⟨A, c, e, (r.below hb).more hb.size⟩
  | any => trivial

section
variable {P : Program} {ops : Array Oper} {Q : Exit → Act → World → Prop}
theorem wp_region_facts {id : Nat} {a : Act} {w : World} (hmx : P.follows .mixedOrders = true) (k n : Nat) (L : List (Nat × Nat)) (R : List Oper) (F : List Fc) (hf : thenB ops n k = true) (hL : dstsOf ops k = L) (hR : ops.toList.drop k = R) (hn : a.tmps.size = n)
    (hop : ∀ (j : Nat) o, j < k → ops[j]? = some o → ∀ a' v K, (∀ t, (∀ p ∈ L, p.2 ≠ t) → a'.tmps.getD t undef = a.tmps.getD t undef) → (∀ p ∈ needOf ops j, (F.getD p.1 .any).holds v (a'.tmps.getD p.2 undef)) → Below w.heap.size w v →
      (∀ u v', (F.getD j .any).holds v' u → Below v.heap.size v v' → K (a'.put o.dst u) v') → o.wp P a' v K Q)
    (hend : ∀ (f : Nat → Value) v, (∀ p ∈ L, (F.getD p.1 .any).holds v (f p.1)) → Below w.heap.size w v → wpList P ops Q R (L.foldl (fun b p => b.put (some p.2) (f p.1)) a) v) : (Code.region id ops true).wp P Q a w := by
  refine wp_region_then hmx k n L R hf hL hR (fun j v u => (F.getD j .any).holds v u) (fun v => Below w.heap.size w v) hn ⟨rfl, rfl, rfl, Nat.le_refl _, fun _ _ => rfl⟩ ?_ (fun f v hf hB => hend f v hf hB)
  intro j o hj ho a' v K hk hnd hB hK
  exact hop j o hj ho a' v K hk hnd hB (fun u v' hu hb => hK u v' hu (fun i x hx => Fc.on hb _ _ hx) (bthen hB hb))
theorem fact_of {j : Nat} {F : List Fc} {v : World} {a' : Act} (hnd : ∀ p ∈ needOf ops j, (F.getD p.1 .any).holds v (a'.tmps.getD p.2 undef)) (i t : Nat) (h : (needOf ops j).contains (i, t) = true) : (F.getD i .any).holds v (a'.eval (.tmp t)) :=
  hnd (i, t) (by simpa using h)
end
end Go.Proofs.Ytegpaocoepcemaa
