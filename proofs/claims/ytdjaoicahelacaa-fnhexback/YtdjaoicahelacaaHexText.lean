/-
  What HexText makes, in the program and in the model.
-/
import Derived.Test.YtdjaoicahelacaaStr
import Derived.StillTailTactics
import Derived.Laws.BitsAllLaws
import Derived.Laws.BitsLemmas
namespace Go.Proofs.Ytdjaoicahelacaa
open Go.RowKit

def hexDig (d : Nat) : UInt8 := if d < 10 then UInt8.ofNat (48 + d) else UInt8.ofNat (87 + d)
def hexOf (bs : List UInt8) : List UInt8 := bs.flatMap fun b => [hexDig (b.toNat / 16), hexDig (b.toNat % 16)]
theorem hexOf_length (bs : List UInt8) : (hexOf bs).length = 2 * bs.length := by
  induction bs with
  | nil => rfl
  | cons b bs ih => simp only [hexOf, List.flatMap_cons, List.length_append, List.length_cons, List.length_nil] at *; omega
theorem hexOf_snoc (bs : List UInt8) (b : UInt8) : hexOf (bs ++ [b]) = hexOf bs ++ [hexDig (b.toNat / 16), hexDig (b.toNat % 16)] := by simp [hexOf]

theorem hexDig_lo (d : Nat) (h : d < 10) : ((hexDig d).toNat : Int) = 48 + d := by
  simp [hexDig, h]
  omega
theorem hexDig_hi (d : Nat) (h : ¬ d < 10) (h2 : d < 16) : ((hexDig d).toNat : Int) = 87 + d := by
  simp [hexDig, h]
  omega

/-- The program's constant text of the sixteen digits. -/
theorem index_hex (d : Nat) (h : d < 16) (w : World) :
    (Instr.index 9 (.string ⟨#[48, 49, 50, 51, 52, 53, 54, 55, 56, 57, 97, 98, 99, 100, 101, 102]⟩) (.int .u8 (d : Int))).run Try.prog w = .ok (.int .u8 ((hexDig d).toNat : Int)) w := by
  have : d = 0 ∨ d = 1 ∨ d = 2 ∨ d = 3 ∨ d = 4 ∨ d = 5 ∨ d = 6 ∨ d = 7 ∨ d = 8 ∨ d = 9 ∨ d = 10 ∨ d = 11 ∨ d = 12 ∨ d = 13 ∨ d = 14 ∨ d = 15 := by omega
  rcases this with rfl | rfl | rfl | rfl | rfl | rfl | rfl | rfl | rfl | rfl | rfl | rfl | rfl | rfl | rfl | rfl <;> (show _ = _; kernel_rfl)

set_option maxHeartbeats 400000 in
theorem specDigit (d : Int) (w : World) (h0 : 0 ≤ d) (h : d < 16) :
    Calls Try.prog 50 #[.int .i64 d] w fun e w' => e = .returned (.int .u8 ((hexDig d.toNat).toNat : Int)) ∧ w = w' := by
  by_cases h1 : d < 10
  · go_enter Try.func50, Try.ntmps50
    go_wp2
    go_ret
    exact ⟨ret_int (by rw [hexDig_lo d.toNat (by omega)]; omega), rfl⟩
  · go_enter Try.func50, Try.ntmps50
    go_wp2
    go_ret
    exact ⟨ret_int (by rw [hexDig_hi d.toNat (by omega) (by omega)]; omega), rfl⟩

theorem specDigitN (d : Nat) (w : World) (h : d < 16) :
    Calls Try.prog 50 #[.int .i64 (d : Int)] w fun e w' => e = .returned (.int .u8 ((hexDig d).toNat : Int)) ∧ w = w' := by
  have := specDigit (d : Int) w (by omega) (by omega)
  simpa using this

theorem byte_parts (b : Nat) (h : b < 256) : IntKind.i64.wrap (b : Int) = b ∧ IntKind.i64.wrap ((b : Int) / 16) = ((b / 16 : Nat) : Int) ∧ IntKind.i64.wrap ((b : Int).tmod 16) = ((b % 16 : Nat) : Int) ∧ (b : Int).tmod 16 = ((b % 16 : Nat) : Int) := by
  rw [Int.tmod_eq_emod_of_nonneg (by omega), IntKind.wrap_i64, IntKind.wrap_i64, IntKind.wrap_i64]
  omega

theorem and15 (b : UInt8) : bits .and .u8 (b.toNat : Int) 15 = (b.toNat : Int) % 16 := by
  have hb : b.toNat < 256 := UInt8.toNat_lt b
  generalize b.toNat = n at *
  have e : (BitVec.ofInt 8 (n : Int)).toNat = n := by
    rw [BitVec.ofInt_natCast, BitVec.toNat_ofNat]
    exact Nat.mod_eq_of_lt (by omega)
  have e2 : n &&& 15 = n % 16 := Nat.and_two_pow_sub_one_eq_mod n 4
  show IntKind.u8.wrap ((BitVec.ofInt 8 (n : Int) &&& BitVec.ofInt 8 15).toNat : Int) = _
  rw [BitVec.toNat_and, e, show (BitVec.ofInt 8 15).toNat = 15 from rfl, e2, IntKind.wrap_u8]
  omega

set_option maxHeartbeats 1000000 in
theorem implHexText (A : Option Addr) (c : Nat) (bs : List UInt8) (w : World) (hr : RB w w.heap.size A bs) (hn : bs.length ≤ 4000) :
    Calls Try.prog 15 #[.slice A bs.length c] w fun e w' => e = .returned (.string (strOf (hexOf bs))) ∧ Below w.heap.size w w' := by
  obtain ⟨i0, hi0, hz0, hz1, hz2⟩ := info_parts info_u8
  go_enter Try.func15, Try.ntmps15
  go_wp2_with (at_make; refine wpList_make_own _ rfl _ _ 22 rfl w.heap.size 5 i0 (.int .u8 0) 1 Try.underlying22 hi0 hz0 hz1 _ _ _ (2 * bs.length) rfl rfl (by omega) (by rw [hz2]; omega) (by unfold maxLen; omega) (Nat.le_refl _) ?_; intro w1 hown hgrow)
  have hb1 : Below w.heap.size w w1 := (Below.refl _ _).grown hgrow (Nat.le_refl _) (by simp)
  clear hgrow
  go_loopw [3, 15] (fun v i wr => ∃ k : Nat, k ≤ bs.length ∧ i = .int .i64 k ∧ wr.ownsRow w.heap.size 5 1 v (hexOf (bs.take k)).length (cellsOf (hexOf (bs.take k))) ∧ Below w.heap.size w wr) (fun _ i _ => bs.length - (intOf i).toNat)
  case atStart => exact ⟨0, Nat.zero_le _, rfl, hown, hb1⟩
  case round =>
    obtain ⟨k, hk, rfl, ho, hb⟩ := hrel
    clear hown hb1
    obtain ⟨D, dc, rfl⟩ := own_form ho
    by_cases hlt : k < bs.length
    · obtain ⟨g, o, rfl, hg, hc0⟩ := hr.at_ hlt
      have hc : wr.cell? ⟨g, o + k, none⟩ = some (.int .u8 (bs[k].toNat : Int)) := (hb.cell (p := ⟨g, o + k, none⟩) hg).trans hc0
      have hand := and15 bs[k]
      have hb8 : bs[k].toNat < 256 := UInt8.toNat_lt _
      have hx1 : ∀ w, (Instr.index 9 (.string ⟨#[48, 49, 50, 51, 52, 53, 54, 55, 56, 57, 97, 98, 99, 100, 101, 102]⟩) (.int .u8 ((bs[k].toNat : Int) / 16))).run Try.prog w = .ok (.int .u8 ((hexDig (bs[k].toNat / 16)).toNat : Int)) w := fun w => by
        have := index_hex (bs[k].toNat / 16) (by omega) w
        rwa [Int.natCast_ediv] at this
      have hx2 : ∀ w, (Instr.index 9 (.string ⟨#[48, 49, 50, 51, 52, 53, 54, 55, 56, 57, 97, 98, 99, 100, 101, 102]⟩) (.int .u8 ((bs[k].toNat : Int) % 16))).run Try.prog w = .ok (.int .u8 ((hexDig (bs[k].toNat % 16)).toNat : Int)) w := fun w => by
        have := index_hex (bs[k].toNat % 16) (by omega) w
        rwa [Int.natCast_emod] at this
      have hz := hb.size
      have hlt3 : ∀ j, (Value.slice D (hexOf (bs.take k)).length dc).ownBlock = some j → w.heap.size ≤ j := fun j hj => (ho.lt j hj).1
      clear hc0 hr
      go_wp2
      go_region_law ((refine step_append_b (by rfl) (.tmp 19) (.tmp 26) (by rfl) w.heap.size (.slice D (hexOf (bs.take k)).length dc) (hexOf (bs.take k)) (by rfl) ((ho.alloc _).drew) _ (some ⟨wr.heap.size, 0, none⟩) 2 2 [hexDig (bs[k].toNat / 16), hexDig (bs[k].toNat % 16)] (by rfl) rfl (RB.new wr 5 [hexDig (bs[k].toNat / 16), hexDig (bs[k].toNat % 16)]) (by simp [hexOf_length]; omega) (by simp; omega) ?_; intro v3 w3 hown3 hg3 hat3))
      all_goals
        go_wp2
        go_roundw
        case rel => exact ⟨k + 1, by omega, by go_num, by rw [take_snoc bs k hlt, hexOf_snoc]; exact hown3, ((hb.alloc hb.size _).drew).grown hg3 (by simp; omega) hlt3⟩
        case measure => simp [intOf]; omega
    · obtain rfl : k = bs.length := by omega
      rw [List.take_length] at ho
      rw [List.take_length]
      have hcv := conv_b wr _ D (hexOf bs).length dc (hexOf bs) rfl (RB.of_own ho)
      clear ho
      go_wp2
      go_ret
      exact ⟨rfl, hb⟩

set_option maxHeartbeats 1000000 in
theorem specHexText (A : Option Addr) (c : Nat) (bs : List UInt8) (w : World) (hr : RB w w.heap.size A bs) (hn : bs.length ≤ 4000) :
    Calls Try.prog 35 #[.slice A bs.length c] w fun e w' => e = .returned (.string (strOf (hexOf bs))) ∧ Below w.heap.size w w' := by
  go_enter Try.func35, Try.ntmps35
  go_wp2
  go_loopw [3, 4] (fun v i wr => ∃ k : Nat, k ≤ bs.length ∧ i = .int .i64 k ∧ wr.ownsRow w.heap.size 5 1 v (hexOf (bs.take k)).length (cellsOf (hexOf (bs.take k))) ∧ Below w.heap.size w wr) (fun _ i _ => bs.length - (intOf i).toNat)
  case atStart => exact ⟨0, Nat.zero_le _, rfl, World.ownsRow_lit w #[] 0 (Nat.le_refl _) (Nat.zero_le _) rfl, (Below.refl _ _).alloc (Nat.le_refl _) _⟩
  case round =>
    obtain ⟨k, hk, rfl, ho, hb⟩ := hrel
    obtain ⟨D, dc, rfl⟩ := own_form ho
    by_cases hlt : k < bs.length
    · obtain ⟨g, o, rfl, hg, hc0⟩ := hr.at_ hlt
      have hc : wr.cell? ⟨g, o + k, none⟩ = some (.int .u8 (bs[k].toNat : Int)) := (hb.cell (p := ⟨g, o + k, none⟩) hg).trans hc0
      have hb8 : bs[k].toNat < 256 := UInt8.toNat_lt _
      have hz := hb.size
      have hlt3 : ∀ j, (Value.slice D (hexOf (bs.take k)).length dc).ownBlock = some j → w.heap.size ≤ j := fun j hj => (ho.lt j hj).1
      have hk1 : (k : Int) < (bs.length : Int) := by omega
      have hcA := Lib.hid (fun ob : Obj => (World.cell?_alloc_lt wr ob ⟨g, o + k, none⟩ (show g < wr.heap.size by omega)).trans hc)
      have hne3 := Lib.hid (show some g ≠ (Value.slice D (hexOf (bs.take k)).length dc).ownBlock from fun e => by have := hlt3 g e.symm; omega)
      have hlt3 := Lib.hid hlt3
      obtain ⟨p1, p2, p3, p4⟩ := byte_parts bs[k].toNat hb8
      obtain ⟨q, hq⟩ : ∃ q : Nat, q = bs[k].toNat / 16 := ⟨_, rfl⟩
      obtain ⟨r, hr'⟩ : ∃ r : Nat, r = bs[k].toNat % 16 := ⟨_, rfl⟩
      have hq16 : q < 16 := by omega
      have hr16 : r < 16 := by omega
      rw [← hq] at p2
      rw [← hr'] at p3 p4
      have p5 : IntKind.i64.wrap (r : Int) = r := by rw [← p4]; exact p3.trans p4.symm
      have p6 : IntKind.i64.wrap (q : Int) = q := by rw [IntKind.wrap_i64]; omega
      have E := Lib.hid (show hexOf (bs.take (k + 1)) = hexOf (bs.take k) ++ [hexDig q, hexDig r] by rw [take_snoc bs k hlt, hexOf_snoc, hq, hr'])
      clear hc0 hr hq hr' hb8
      go_wp2_with fail
      go_region_held3 (fun w' => w'.cell? ⟨g, o + k, none⟩ = some (.int .u8 (bs[k].toNat : Int))) (first | go_keep | exact hg3.cell (hcA.out _) hne3.out)
        (first | (refine step_append_b (by rfl) (.tmp 15) (.tmp 30) (by rfl) w.heap.size (.slice D (hexOf (bs.take k)).length dc) (hexOf (bs.take k)) (by rfl) ((ho.alloc _).drew) _ (some ⟨wr.heap.size, 0, none⟩) 2 2 [hexDig q, hexDig r] (by rfl) rfl (RB.new wr 5 [hexDig q, hexDig r]) (by simp [hexOf_length]; omega) (by simp; omega) ?_; intro v3 w3 hown3 hg3 hat3) | (go_at_call 50; with_reducible refine (specDigitN q _ hq16).mono ?_; rintro e w' ⟨rfl, rfl⟩) | (go_at_call 50; with_reducible refine (specDigitN r _ hr16).mono ?_; rintro e w' ⟨rfl, rfl⟩))
      all_goals
        go_wp2
        go_roundw
        case rel => exact ⟨k + 1, by omega, by go_num, by rw [E.out]; exact hown3, ((hb.alloc hb.size _).drew).grown hg3 (by simp; omega) hlt3.out⟩
        case measure => simp [intOf]; omega
    · obtain rfl : k = bs.length := by omega
      rw [List.take_length] at ho
      rw [List.take_length]
      have hcv := conv_b wr _ D (hexOf bs).length dc (hexOf bs) rfl (RB.of_own ho)
      clear ho
      go_wp2
      go_ret
      exact ⟨rfl, hb⟩

set_option maxHeartbeats 400000 in
theorem implHexText_long (A : Option Addr) (n c : Nat) (w : World) (hn : 4000 < n) :
    Calls Try.prog 15 #[.slice A n c] w fun e w' => e = .returned (.string (strOf [])) ∧ w = w' := by
  go_enter Try.func15, Try.ntmps15
  go_wp2
  go_ret
  exact ⟨rfl, rfl⟩

set_option maxHeartbeats 400000 in
theorem specHexText_long (A : Option Addr) (n c : Nat) (w : World) (hn : 4000 < n) :
    Calls Try.prog 35 #[.slice A n c] w fun e w' => e = .returned (.string (strOf [])) ∧ w = w' := by
  go_enter Try.func35, Try.ntmps35
  go_wp2
  go_ret
  exact ⟨rfl, rfl⟩

/-- HexText, long or not. -/
def hexText (bs : List UInt8) : List UInt8 := if bs.length ≤ 4000 then hexOf bs else []
theorem implHexT (A : Option Addr) (n c : Nat) (bs : List UInt8) (w : World) (hr : RB w w.heap.size A bs) (hl : bs.length = n) :
    Calls Try.prog 15 #[.slice A n c] w fun e w' => e = .returned (.string (strOf (hexText bs))) ∧ Below w.heap.size w w' := by
  subst hl
  by_cases h : bs.length ≤ 4000
  · rw [hexText, if_pos h]
    exact implHexText A c bs w hr h
  · rw [hexText, if_neg h]
    exact (implHexText_long A bs.length c w (by omega)).mono fun e w' ⟨he, hw⟩ => ⟨he, hw ▸ Below.refl _ _⟩
theorem specHexT (A : Option Addr) (n c : Nat) (bs : List UInt8) (w : World) (hr : RB w w.heap.size A bs) (hl : bs.length = n) :
    Calls Try.prog 35 #[.slice A n c] w fun e w' => e = .returned (.string (strOf (hexText bs))) ∧ Below w.heap.size w w' := by
  subst hl
  by_cases h : bs.length ≤ 4000
  · rw [hexText, if_pos h]
    exact specHexText A c bs w hr h
  · rw [hexText, if_neg h]
    exact (specHexText_long A bs.length c w (by omega)).mono fun e w' ⟨he, hw⟩ => ⟨he, hw ▸ Below.refl _ _⟩
end Go.Proofs.Ytdjaoicahelacaa
