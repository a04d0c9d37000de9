/-
  What Be16 and Be32 read, in the program and in the model.
-/
import Derived.Test.YtmfkpiclpkeemaaBytes
import Derived.Laws.BitsAllLaws
import Derived.Laws.BitsLemmas
namespace Go.Proofs.Ytmfkpiclpkeemaa
set_option maxRecDepth 100000
open Go.RowKit

def be (l : List UInt8) : Nat := l.foldl (fun n b => 256 * n + b.toNat) 0
theorem be_snoc (l : List UInt8) (b : UInt8) : be (l ++ [b]) = 256 * be l + b.toNat := by simp [be]
theorem be_from (l : List UInt8) : ∀ a : Nat, l.foldl (fun n b => 256 * n + b.toNat) a < (a + 1) * 256 ^ l.length := by
  induction l with
  | nil => intro a; simp
  | cons b l ih =>
    intro a
    have hb : b.toNat < 256 := UInt8.toNat_lt b
    have h := ih (256 * a + b.toNat)
    have h2 : (256 * a + b.toNat + 1) * 256 ^ l.length ≤ (256 * (a + 1)) * 256 ^ l.length := Nat.mul_le_mul_right _ (by omega)
    simp only [List.foldl_cons, List.length_cons, Nat.pow_succ]
    have h3 : (a + 1) * (256 ^ l.length * 256) = (256 * (a + 1)) * 256 ^ l.length := by rw [Nat.mul_comm (256 ^ l.length) 256, ← Nat.mul_assoc, Nat.mul_comm (a + 1) 256]
    omega
theorem be_lt (l : List UInt8) : be l < 256 ^ l.length := by
  have := be_from l 0
  simpa [be] using this
theorem be_lt3 (l : List UInt8) (j : Nat) (h : j ≤ 3) : be (l.take j) < 16777216 := by
  have h1 := be_lt (l.take j)
  have h2 : 256 ^ (l.take j).length ≤ 256 ^ 3 := Nat.pow_le_pow_right (by omega) (Nat.le_trans (List.length_take_le _ _) h)
  omega

theorem ofInt_i64 (a : Nat) (ha : a < 9223372036854775808) : (BitVec.ofInt 64 (a : Int)).toNat = a := by
  rw [BitVec.ofInt_natCast, BitVec.toNat_ofNat]
  exact Nat.mod_eq_of_lt (by omega)

/-- 'n<<8 | b' of a small n and a byte. -/
theorem or_byte (m b : Nat) (hm : m < 4294967296) (hb : b < 256) : bits .or .i64 ((m : Int) * 256) (b : Int) = (m : Int) * 256 + b := by
  have e : ((m : Int) * 256) = ((256 * m : Nat) : Int) := by omega
  have ho : 256 * m ||| b = 256 * m + b := (Nat.two_pow_add_eq_or_of_lt (i := 8) (by simpa using hb) m).symm
  rw [e]
  show IntKind.i64.wrap ((BitVec.ofInt 64 ((256 * m : Nat) : Int) ||| BitVec.ofInt 64 (b : Int)).toNat : Int) = _
  rw [BitVec.toNat_or, ofInt_i64 _ (by omega), ofInt_i64 b (by omega), ho, IntKind.wrap_i64]
  omega

set_option maxHeartbeats 400000 in
theorem within_yes (n lo hi : Int) (w : World) (h1 : lo ≤ n) (h2 : n ≤ hi) :
    Calls Try.prog 63 #[.int .i64 n, .int .i64 lo, .int .i64 hi] w fun e w' => e = .returned (.bool true) ∧ w = w' := by
  have h3 : ¬ n < lo := by omega
  have h4 : ¬ hi < n := by omega
  go_enter Try.func63, Try.ntmps63
  go_wp2
  go_ret
  exact ⟨rfl, rfl⟩

set_option maxHeartbeats 400000 in
theorem within_no (n lo hi : Int) (w : World) (h : n < lo ∨ hi < n) :
    Calls Try.prog 63 #[.int .i64 n, .int .i64 lo, .int .i64 hi] w fun e w' => e = .returned (.bool false) ∧ w = w' := by
  by_cases h1 : n < lo
  · have h2 : (lo == n) = false := by simp; omega
    go_enter Try.func63, Try.ntmps63
    go_wp2
    go_ret
    exact ⟨rfl, rfl⟩
  · have h3 : hi < n := by omega
    have h2 : (hi == n) = false := by simp; omega
    go_enter Try.func63, Try.ntmps63
    go_wp2
    go_ret
    exact ⟨rfl, rfl⟩















set_option maxHeartbeats 400000 in
theorem specBe32_no (A : Option Addr) (n c : Nat) (k : Int) (w : World) (hn : n ≤ 1048576) (h : k < 0 ∨ (n : Int) - 4 < k) :
    Calls Try.prog 152 #[.slice A n c, .int .i64 k] w fun e w' => e = .returned (.tuple #[.int .i64 0, .bool false]) ∧ w = w' := by
  by_cases h0 : k < 0
  · clear h
    go_enter Try.func152, Try.ntmps152
    go_wp2
    go_ret2
    exact ⟨rfl, rfl⟩
  · have h1 : (n : Int) - 4 < k := by omega
    clear h
    go_enter Try.func152, Try.ntmps152
    go_wp2
    go_ret2
    exact ⟨rfl, rfl⟩

theorem two_bytes (a b : UInt8) : wrap64 (wrap64 (256 * wrap64 (a.toNat : Int)) + wrap64 (b.toNat : Int)) = ((256 * a.toNat + b.toNat : Nat) : Int) := by
  have ha : a.toNat < 256 := UInt8.toNat_lt a
  have hb : b.toNat < 256 := UInt8.toNat_lt b
  rw [IntWalk.wrap64_in (a.toNat : Int) (by omega), IntWalk.wrap64_in (b.toNat : Int) (by omega), IntWalk.wrap64_in (256 * (a.toNat : Int)) (by omega), IntWalk.wrap64_in _ (by omega)]
  omega



set_option maxHeartbeats 400000 in
theorem specBe32 (A : Option Addr) (n c : Nat) (bs : List UInt8) (k : Nat) (w : World) (hr : RB w w.heap.size A bs) (hl : bs.length = n) (hn : n ≤ 1048576) (h : k + 4 ≤ n) :
    Calls Try.prog 152 #[.slice A n c, .int .i64 (k : Int)] w fun e w' => e = .returned (.tuple #[.int .i64 (be ((bs.drop k).take 4)), .bool true]) ∧ Below w.heap.size w w' := by
  subst hl
  obtain ⟨g, o, rfl, hg, hcell⟩ := hr (by omega)
  go_enter Try.func152, Try.ntmps152
  go_wp2
  go_loop [6, 7] (fun n i => ∃ j : Nat, j ≤ 4 ∧ i = .int .i64 j ∧ n = .int .i64 (be ((bs.drop k).take j))) (fun _ i => 4 - (intOf i).toNat)
  case atStart => exact ⟨0, Nat.zero_le _, rfl, rfl⟩
  case round =>
    obtain ⟨j, hj, rfl, rfl⟩ := hrel
    by_cases hlt : j < 4
    · have hc0 : w.cell? ⟨g, o + (k + j), none⟩ = some (.int .u8 (bs[k + j].toNat : Int)) := hcell (k + j) _ (List.getElem?_eq_getElem (by omega))
      have hb : (bs[k + j].toNat) < 256 := UInt8.toNat_lt _
      have hm := be_lt3 (bs.drop k) j (by omega)
      have hst := Lib.hid (show be ((bs.drop k).take (j + 1)) = 256 * be ((bs.drop k).take j) + bs[k + j].toNat by
        rw [take_snoc _ j (by simp; omega), be_snoc]
        simp)
      clear hcell
      go_wp2
      go_round
      case rel => exact ⟨j + 1, by omega, by go_num, by rw [hst.out]; go_num⟩
      case measure => simp [intOf]; omega
    · obtain rfl : j = 4 := by omega
      go_wp2
      go_ret2
      exact ⟨rfl, Below.refl _ _⟩
end Go.Proofs.Ytmfkpiclpkeemaa
