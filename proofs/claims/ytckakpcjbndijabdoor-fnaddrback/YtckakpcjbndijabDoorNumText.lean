/-
  The model's decimal text of an integer.
-/
import Derived.Test.YtckakpcjbndijabDoorStr
namespace Go.Proofs.YtckakpcjbndijabDoor
open Go.RowKit

/-- The decimal digits of a number that is not 0; of 0 none. -/
def dec (n : Nat) : List UInt8 := if _h : n = 0 then [] else dec (n / 10) ++ [UInt8.ofNat (48 + n % 10)]
termination_by n
decreasing_by omega

set_option maxRecDepth 100000 in
theorem dec_zero : dec 0 = [] := by unfold dec; rfl
set_option maxRecDepth 100000 in
theorem dec_pos (n : Nat) (h : n ≠ 0) : dec n = dec (n / 10) ++ [UInt8.ofNat (48 + n % 10)] := by rw [dec, dif_neg h]
set_option maxRecDepth 100000 in
theorem dec_len (k : Nat) : ∀ n, n < 10 ^ k → (dec n).length ≤ k := by
  induction k with
  | zero => intro n h; have : n = 0 := by simpa using h
            subst this; simp [dec_zero]
  | succ k ih =>
    intro n h
    by_cases h0 : n = 0
    · subst h0; simp [dec_zero]
    · rw [dec_pos n h0]
      have := ih (n / 10) (by rw [Nat.pow_succ] at h; omega)
      simp
      exact this

/-- The text that the model gives of n. -/
def numText (n : Int) : List UInt8 := if n = 0 then [48] else if n < 0 then 45 :: dec n.natAbs else dec n.natAbs

set_option maxRecDepth 100000 in
theorem digit_val (d : Nat) (h : d < 10) : ((UInt8.ofNat (48 + d)).toNat : Int) = 48 + (d : Int) := by
  simp
  omega

set_option maxRecDepth 100000 in
theorem num_step (n m : Int) (bs : List UInt8) (h : dec n.natAbs = dec m.natAbs ++ bs) (hm : m ≠ 0) : dec n.natAbs = dec (m.tdiv 10).natAbs ++ (UInt8.ofNat (48 + m.natAbs % 10) :: bs) := by
  rw [h, dec_pos m.natAbs (by omega), Int.natAbs_tdiv]
  simp
  rfl

set_option maxRecDepth 100000 in
theorem tmod_ten (m : Int) : (0 < m → m.tmod 10 = (m.natAbs % 10 : Nat)) ∧ (m < 0 → m.tmod 10 = -(m.natAbs % 10 : Nat)) := by
  constructor
  · intro h
    rw [Int.tmod_eq_emod_of_nonneg (by omega)]
    omega
  · intro h
    have h1 : m = -(-m) := by omega
    rw [h1, Int.neg_tmod, Int.tmod_eq_emod_of_nonneg (by omega)]
    omega

set_option maxRecDepth 100000 in
theorem tdiv_neg_ten (m : Int) (h : m < 0) (hm : -9223372036854775808 ≤ m) : -922337203685477580 ≤ m.tdiv 10 ∧ m.tdiv 10 ≤ 0 := by
  have h1 : m.tdiv 10 = -((-m) / 10) := by
    conv => lhs; rw [show m = -(-m) by omega]
    rw [Int.neg_tdiv, Int.tdiv_eq_ediv_of_nonneg (by omega)]
  rw [h1]
  omega

set_option maxRecDepth 100000 in
/-- One byte in a new block. -/
theorem own_byte (w : World) (base : Nat) (hb : base ≤ w.heap.size) (x : Int) (b : UInt8) (h : (b.toNat : Int) = x) :
    (w.alloc (.cells #[.int .u8 x] 5)).ownsRow base 5 1 (.slice (some ⟨w.heap.size, 0, none⟩) 1 1) [b].length (cellsOf [b]) := by
  subst h
  exact World.ownsRow_lit w #[.int .u8 (b.toNat : Int)] 1 hb (by decide) rfl

set_option maxRecDepth 100000 in
set_option maxHeartbeats 1000000 in
theorem specNumText (n : Int) (w : World) (hw : -9223372036854775808 ≤ n ∧ n ≤ 9223372036854775807) :
    Calls Tryd.prog 29 #[.int .i64 n] w fun e w' => e = .returned (.string (strOf (numText n))) ∧ Below w.heap.size w w' := by
  by_cases h0 : n = 0
  · subst h0
    go_enter Tryd.func29, Tryd.ntmps29
    go_wp2
    go_ret
    exact ⟨rfl, Below.refl _ _⟩
  · have hne : (n == 0) = false := by simpa using h0
    go_enter Tryd.func29, Tryd.ntmps29
    go_wp2
    go_loopw [3, 4] (fun v q wr => ∃ (bs : List UInt8) (m : Int), q = .int .i64 m ∧ -9223372036854775808 ≤ m ∧ m ≤ 9223372036854775807 ∧ dec n.natAbs = dec m.natAbs ++ bs ∧ wr.ownsRow w.heap.size 5 1 v bs.length (cellsOf bs) ∧ Below w.heap.size w wr) (fun _ q _ => (intOf q).natAbs)
    case atStart => exact ⟨[], n, rfl, hw.1, hw.2, by simp, World.ownsRow_lit w #[] 0 (Nat.le_refl _) (Nat.zero_le _) rfl, (Below.refl _ _).alloc (Nat.le_refl _) _⟩
    case round =>
      obtain ⟨bs, m, rfl, hm1, hm2, hdec, hown, hb⟩ := hrel
      obtain ⟨A, c, rfl⟩ := own_form hown
      by_cases hm0 : m = 0
      · subst hm0
        have hlen : bs.length ≤ 20 := by
          have h1 := dec_len 20 n.natAbs (by omega)
          rw [hdec, List.length_append] at h1
          omega
        have hbs : bs = dec n.natAbs := by rw [hdec]; simp [dec_zero]
        have hz := hb.size
        by_cases hneg : n < 0
        · have o1 := own_byte wr w.heap.size hb.size 45 45 rfl
          have r1 := (RB.of_own (hown.alloc (.cells #[.int .u8 45] 5)))
          have hb2 := Lib.hid (hb.alloc hb.size (.cells #[.int .u8 45] 5))
          have hbq := Lib.hid hbs; clear hbs
          clear hdec
          go_wp2_with (at_builtin; refine wpList_append_b rfl (.tmp 28) (.tmp 29) rfl w.heap.size (.slice (some ⟨wr.heap.size, 0, none⟩) 1 1) [45] rfl o1 _ A bs.length c bs rfl rfl r1 (by simp; omega) (by simp; omega) ?_; intro v3 w3 hown3 hg3 _; obtain ⟨A3, c3, rfl⟩ := own_form hown3; have hcv := conv_b w3 _ A3 (bs.length + 1) c3 (45 :: bs) (by simp) (RB.of_own (bs := 45 :: bs) hown3))
          go_ret
          refine ⟨?_, hb2.out.grown hg3 (by simp; omega) (by intro k hk; simp [Value.ownBlock] at hk; omega)⟩
          rw [numText, if_neg h0, if_pos hneg, ← hbq.out]
          rfl
        · have hbq := Lib.hid hbs; clear hbs
          have hcv := conv_b wr _ A bs.length c bs rfl (RB.of_own hown)
          clear hdec
          go_wp2
          go_ret
          refine ⟨?_, hb⟩
          rw [numText, if_neg h0, if_neg (by omega), ← hbq.out]
          rfl
      · have hmne : (m == 0) = false := by simpa using hm0
        have hst := Lib.hid (num_step n m bs hdec hm0)
        have hten := tmod_ten m
        have hlen : bs.length ≤ 20 := by
          have h1 := dec_len 20 n.natAbs (by omega)
          rw [hdec, List.length_append] at h1
          omega
        obtain ⟨d, hd⟩ : ∃ d : Nat, d = m.natAbs % 10 := ⟨_, rfl⟩
        rw [← hd] at hten hst
        have hd10 : d < 10 := by omega
        have hz := hb.size
        have o1 := own_byte wr w.heap.size hb.size (48 + (d : Int)) (UInt8.ofNat (48 + d)) (digit_val d hd10)
        have r1 := (RB.of_own (hown.alloc (.cells #[.int .u8 (48 + (d : Int))] 5)))
        have hb2 := Lib.hid (hb.alloc hb.size (.cells #[.int .u8 (48 + (d : Int))] 5))
        rcases Int.lt_or_gt_of_ne hm0 with hneg | hpos
        · have hdm := hten.2 hneg
          obtain ⟨t1, t2⟩ := tdiv_neg_ten m hneg hm1
          have hdn : 0 < d ∨ d = 0 := by omega
          have hm3 := Lib.hid (show (m.tdiv 10).natAbs < m.natAbs by rw [Int.natAbs_tdiv]; exact Nat.div_lt_self (by omega) (by omega))
          clear hten hdec hd
          rcases hdn with hdp | rfl
          · go_wp2_with (at_builtin; refine wpList_append_b rfl (.tmp 23) (.tmp 24) rfl w.heap.size (.slice (some ⟨wr.heap.size, 0, none⟩) 1 1) [UInt8.ofNat (48 + d)] rfl o1 _ A bs.length c bs rfl rfl r1 (by simp; omega) (by simp; omega) ?_; intro v3 w3 hown3 hg3 _)
            go_roundw
            case rel => exact ⟨_, _, rfl, by omega, by omega, hst.out, hown3, hb2.out.grown hg3 (by simp; omega) (by intro k hk; simp [Value.ownBlock] at hk; omega)⟩
            case measure => simp only [intOf]; exact hm3.out
          · go_wp2_with (at_builtin; refine wpList_append_b rfl (.tmp 23) (.tmp 24) rfl w.heap.size (.slice (some ⟨wr.heap.size, 0, none⟩) 1 1) [UInt8.ofNat (48 + 0)] rfl o1 _ A bs.length c bs rfl rfl r1 (by simp; omega) (by simp; omega) ?_; intro v3 w3 hown3 hg3 _)
            go_roundw
            case rel => exact ⟨_, _, rfl, by omega, by omega, hst.out, hown3, hb2.out.grown hg3 (by simp; omega) (by intro k hk; simp [Value.ownBlock] at hk; omega)⟩
            case measure => simp only [intOf]; exact hm3.out
        · have hdm := hten.1 hpos
          have hq := Lib.hid (Int.tdiv_eq_ediv_of_nonneg (a := m) (b := 10) (by omega))
          clear hten hdec hd
          go_wp2_with (at_builtin; refine wpList_append_b rfl (.tmp 23) (.tmp 24) rfl w.heap.size (.slice (some ⟨wr.heap.size, 0, none⟩) 1 1) [UInt8.ofNat (48 + d)] rfl o1 _ A bs.length c bs rfl rfl r1 (by simp; omega) (by simp; omega) ?_; intro v3 w3 hown3 hg3 _)
          go_roundw
          case rel => exact ⟨_, m / 10, rfl, by omega, by omega, by rw [← hq.out]; exact hst.out, hown3, hb2.out.grown hg3 (by simp; omega) (by intro k hk; simp [Value.ownBlock] at hk; omega)⟩
          case measure => simp only [intOf]; omega
end Go.Proofs.YtckakpcjbndijabDoor
