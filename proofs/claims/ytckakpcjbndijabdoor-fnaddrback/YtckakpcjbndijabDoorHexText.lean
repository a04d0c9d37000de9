/-
  What HexText makes, in the program and in the model.
-/
import Derived.Test.YtckakpcjbndijabDoorStr
import Derived.StillTailTactics
import Derived.Laws.BitsAllLaws
import Derived.Laws.BitsLemmas
namespace Go.Proofs.YtckakpcjbndijabDoor
open Go.RowKit

def hexDig (d : Nat) : UInt8 := if d < 10 then UInt8.ofNat (48 + d) else UInt8.ofNat (87 + d)
def hexOf (bs : List UInt8) : List UInt8 := bs.flatMap fun b => [hexDig (b.toNat / 16), hexDig (b.toNat % 16)]
set_option maxRecDepth 100000 in
theorem hexOf_length (bs : List UInt8) : (hexOf bs).length = 2 * bs.length := by
  induction bs with
  | nil => rfl
  | cons b bs ih => simp only [hexOf, List.flatMap_cons, List.length_append, List.length_cons, List.length_nil] at *; omega
set_option maxRecDepth 100000 in
theorem hexOf_snoc (bs : List UInt8) (b : UInt8) : hexOf (bs ++ [b]) = hexOf bs ++ [hexDig (b.toNat / 16), hexDig (b.toNat % 16)] := by simp [hexOf]

set_option maxRecDepth 100000 in
theorem hexDig_lo (d : Nat) (h : d < 10) : ((hexDig d).toNat : Int) = 48 + d := by
  simp [hexDig, h]
  omega
set_option maxRecDepth 100000 in
theorem hexDig_hi (d : Nat) (h : ¬ d < 10) (h2 : d < 16) : ((hexDig d).toNat : Int) = 87 + d := by
  simp [hexDig, h]
  omega

set_option maxRecDepth 100000 in
/-- The program's constant text of the sixteen digits. -/
theorem index_hex (d : Nat) (h : d < 16) (w : World) :
    (Instr.index 9 (.string ⟨#[48, 49, 50, 51, 52, 53, 54, 55, 56, 57, 97, 98, 99, 100, 101, 102]⟩) (.int .u8 (d : Int))).run Tryd.prog w = .ok (.int .u8 ((hexDig d).toNat : Int)) w := by
  have : d = 0 ∨ d = 1 ∨ d = 2 ∨ d = 3 ∨ d = 4 ∨ d = 5 ∨ d = 6 ∨ d = 7 ∨ d = 8 ∨ d = 9 ∨ d = 10 ∨ d = 11 ∨ d = 12 ∨ d = 13 ∨ d = 14 ∨ d = 15 := by omega
  rcases this with rfl | rfl | rfl | rfl | rfl | rfl | rfl | rfl | rfl | rfl | rfl | rfl | rfl | rfl | rfl | rfl <;> (show _ = _; kernel_rfl)

set_option maxRecDepth 100000 in
set_option maxHeartbeats 400000 in
theorem specDigit (d : Int) (w : World) (h0 : 0 ≤ d) (h : d < 16) :
    Calls Tryd.prog 58 #[.int .i64 d] w fun e w' => e = .returned (.int .u8 ((hexDig d.toNat).toNat : Int)) ∧ w = w' := by
  by_cases h1 : d < 10
  · go_enter Tryd.func58, Tryd.ntmps58
    go_wp2
    go_ret
    exact ⟨ret_int (by rw [hexDig_lo d.toNat (by omega)]; omega), rfl⟩
  · go_enter Tryd.func58, Tryd.ntmps58
    go_wp2
    go_ret
    exact ⟨ret_int (by rw [hexDig_hi d.toNat (by omega) (by omega)]; omega), rfl⟩

set_option maxRecDepth 100000 in
theorem specDigitN (d : Nat) (w : World) (h : d < 16) :
    Calls Tryd.prog 58 #[.int .i64 (d : Int)] w fun e w' => e = .returned (.int .u8 ((hexDig d).toNat : Int)) ∧ w = w' := by
  have := specDigit (d : Int) w (by omega) (by omega)
  simpa using this

set_option maxRecDepth 100000 in
theorem byte_parts (b : Nat) (h : b < 256) : IntKind.i64.wrap (b : Int) = b ∧ IntKind.i64.wrap ((b : Int) / 16) = ((b / 16 : Nat) : Int) ∧ IntKind.i64.wrap ((b : Int).tmod 16) = ((b % 16 : Nat) : Int) ∧ (b : Int).tmod 16 = ((b % 16 : Nat) : Int) := by
  rw [Int.tmod_eq_emod_of_nonneg (by omega), IntKind.wrap_i64, IntKind.wrap_i64, IntKind.wrap_i64]
  omega

set_option maxRecDepth 100000 in
theorem and15 (b : UInt8) : bits .and .u8 (b.toNat : Int) 15 = (b.toNat : Int) % 16 := by
  have hb : b.toNat < 256 := UInt8.toNat_lt b
  generalize b.toNat = n at *
  have e : (BitVec.ofInt 8 (n : Int)).toNat = n := by
    rw [BitVec.ofInt_natCast, BitVec.toNat_ofNat]
    exact Nat.mod_eq_of_lt (by omega)
  have e2 : n &&& 15 = n % 16 := Nat.and_two_pow_sub_one_eq_mod n 4
  show IntKind.u8.wrap ((BitVec.ofInt 8 (n : Int) &&& BitVec.ofInt 8 15).toNat : Int) = _
  rw [BitVec.toNat_and, e, show (BitVec.ofInt 8 15).toNat = 15 from rfl, e2, IntKind.wrap_u8]
  omega

end Go.Proofs.YtckakpcjbndijabDoor