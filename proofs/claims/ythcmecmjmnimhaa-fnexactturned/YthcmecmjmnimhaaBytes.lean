/-
  What the laws' own four helpers on slices of bytes do: a copy, a comparison, a marking, a look at the marks.
-/
import Derived.Test.YthcmecmjmnimhaaApp
import Derived.Deep.QuietTactic
import Derived.BigQuiet
namespace Go.Proofs.Ythcmecmjmnimhaa
set_option maxRecDepth 100000
open Go.RowKit

set_option maxHeartbeats 400000 in
theorem toB (A : Option Addr) (c : Nat) (bs : List UInt8) (w : World) (hr : RB w w.heap.size A bs) (hn : bs.length ≤ 1048576) :
    Calls Try.prog 16 #[.slice A bs.length c] w fun e w' => e = .returned (.slice (some ⟨w.heap.size, 0, none⟩) bs.length bs.length) ∧
      w'.ownsRow w.heap.size 5 1 (.slice (some ⟨w.heap.size, 0, none⟩) bs.length bs.length) bs.length (cellsOf bs) ∧ Below w.heap.size w w' := by
  obtain ⟨i0, hi0, hz0, hz1, hz2⟩ := info_parts info_u8
  go_enter Try.func16, Try.ntmps16
  go_wp2_with (at_make; refine wpList_make_full _ rfl _ _ 34 rfl w.heap.size 5 i0 (.int .u8 0) 1 Try.underlying34 hi0 hz0 hz1 _ _ _ _ bs.length rfl rfl rfl rfl (by rw [hz2]; omega) (by unfold maxLen; omega) (Nat.le_refl _) ?_; intro w1 hown hgrow)
  have hown0 : w1.ownsRow w.heap.size 5 1 (.slice (some ⟨w.heap.size, 0, none⟩) bs.length bs.length) bs.length (cellsOf (bs.take 0 ++ List.replicate (bs.length - 0) 0)) := by
    have e : (madeCells (Value.int IntKind.u8 0).cells (bs.length * 1)).toList = cellsOf (bs.take 0 ++ List.replicate (bs.length - 0) 0) := by
      have := toList_madeCells_one (.int .u8 0) bs.length
      simpa [Value.cells, cellsOf] using this
    rw [← e]; exact hown
  have hb1 : Below w.heap.size w w1 := (Below.refl _ _).grown hgrow (Nat.le_refl _) (by simp)
  clear hown hgrow
  go_loopw [4] (fun i wr => ∃ k : Nat, k ≤ bs.length ∧ i = .int .i64 k ∧ wr.ownsRow w.heap.size 5 1 (.slice (some ⟨w.heap.size, 0, none⟩) bs.length bs.length) bs.length (cellsOf (bs.take k ++ List.replicate (bs.length - k) 0)) ∧ Below w.heap.size w wr) (fun i _ => bs.length - (intOf i).toNat)
  case atStart => exact ⟨0, Nat.zero_le _, rfl, hown0, hb1⟩
  case round =>
    obtain ⟨k, hk, rfl, hown, hb⟩ := hrel
    clear hown0 hb1
    by_cases hlt : k < bs.length
    · obtain ⟨g, o, rfl, hg, hc0⟩ := hr.at_ hlt
      have hc : wr.cell? ⟨g, o + k, none⟩ = some (.int .u8 (bs[k].toNat : Int)) := (hb.cell (p := ⟨g, o + k, none⟩) hg).trans hc0
      have hfz := hown.frozenAt k
      obtain ⟨u, hu⟩ : ∃ u, wr.cell? ⟨w.heap.size, k, none⟩ = some u := by
        rw [hown.cellAt k (by omega)]
        exact ⟨_, List.getElem?_eq_getElem (by rw [cellsOf_length]; simp; omega)⟩
      have R := hown.stored k (.int .u8 (bs[k].toNat : Int))
      rw [copy_step bs k hlt] at R
      have R1 := Lib.hid R.1
      have R2 : Below w.heap.size w (wr.setCell ⟨w.heap.size, k, none⟩ (.int .u8 (bs[k].toNat : Int))) := hb.setCell (Nat.le_refl _) _
      clear R hown hc0 hr
      go_wp2
      go_roundw
      case rel => exact ⟨k + 1, by omega, by go_num, R1.out, R2⟩
      case measure => simp [intOf]; omega
    · obtain rfl : k = bs.length := by omega
      go_wp2
      go_ret
      exact ⟨rfl, by simpa using hown, hb⟩

set_option maxHeartbeats 400000 in
/-- Two slices that read as the same bytes are found equal. -/
theorem eqB (A D : Option Addr) (c d : Nat) (bs : List UInt8) (w : World) (hx : RB w w.heap.size A bs) (hy : RB w w.heap.size D bs) (hn : bs.length ≤ 1048576) :
    Calls Try.prog 20 #[.slice A bs.length c, .slice D bs.length d] w fun e w' => e = .returned (.bool true) ∧ Below w.heap.size w w' := by
  go_enter Try.func20, Try.ntmps20
  go_wp2
  go_loopw [5] (fun i wr => ∃ k m : Nat, k ≤ bs.length ∧ i = .int .i64 k ∧ wr = w.drewN m) (fun i _ => bs.length - (intOf i).toNat)
  case atStart => exact ⟨0, 0, Nat.zero_le _, rfl, rfl⟩
  case round =>
    obtain ⟨k, m, hk, rfl, rfl⟩ := hrel
    by_cases hlt : k < bs.length
    · obtain ⟨g, o, rfl, hg, hc⟩ := hx.at_ hlt
      obtain ⟨g', o', rfl, hg', hc'⟩ := hy.at_ hlt
      clear hx hy
      go_wp2
      go_quiet (fail)
      go_wp2
      go_roundw
      case rel => exact ⟨k + 1, _, by omega, by go_num, rfl⟩
      case measure => simp [intOf]; omega
    · go_wp2
      go_ret
      exact ⟨rfl, below_drewN (Below.refl _ _) _⟩

/-- The byte that the marking lays at place i, counted from k on. -/
def mark (k i : Nat) : UInt8 := UInt8.ofNat (k + i)
def marks (k n : Nat) : List UInt8 := (List.range n).map (mark k)
theorem marks_length (k n : Nat) : (marks k n).length = n := by simp [marks]
theorem marks_take (k n i : Nat) (h : i ≤ n) : (marks k n).take i = marks k i := by simp [marks, List.take_range, ← List.map_take, show min i n = i by omega]
theorem marks_succ (k i : Nat) : marks k (i + 1) = marks k i ++ [mark k i] := by simp [marks, List.range_succ]
theorem mark_val (k i : Nat) : ((mark k i).toNat : Int) = ((k : Int) + i) % 256 := by simp [mark]

theorem mark_step (k j : Nat) (bs : List UInt8) (h : j < bs.length) :
    (cellsOf (marks k j ++ bs.drop j)).set j (.int .u8 (((k : Int) + j) % 256)) = cellsOf (marks k (j + 1) ++ bs.drop (j + 1)) := by
  rw [List.drop_eq_getElem_cons h, ← mark_val, fill_step _ _ _ _ j (marks_length k j), marks_succ]

set_option maxHeartbeats 400000 in
/-- A row of the call's own is marked: its bytes are the numbers from k on; nothing else has turned. -/
theorem markB (A : Option Addr) (c base : Nat) (bs : List UInt8) (k : Nat) (w : World) (hown : w.ownsRow base 5 1 (.slice A bs.length c) bs.length (cellsOf bs)) (hn : bs.length ≤ 1048576) (hk : k ≤ 1048576) :
    Calls Try.prog 21 #[.slice A bs.length c, .int .i64 (k : Int)] w fun e w' => e = .returned (.int .i64 ((k : Int) + bs.length)) ∧
      w'.ownsRow base 5 1 (.slice A bs.length c) bs.length (cellsOf (marks k bs.length)) ∧ w.grownBy w' (Value.slice A bs.length c).ownBlock := by
  go_enter Try.func21, Try.ntmps21
  go_wp2
  go_loopw [1, 5] (fun q i wr => ∃ j : Nat, j ≤ bs.length ∧ i = .int .i64 j ∧ q = .int .i64 ((k : Int) + j) ∧ wr.ownsRow base 5 1 (.slice A bs.length c) bs.length (cellsOf (marks k j ++ bs.drop j)) ∧ w.grownBy wr (Value.slice A bs.length c).ownBlock) (fun _ i _ => bs.length - (intOf i).toNat)
  case atStart => exact ⟨0, Nat.zero_le _, rfl, by go_num, by simpa [marks] using hown, World.grownBy.refl _ _⟩
  case round =>
    obtain ⟨j, hj, rfl, rfl, ho, hg⟩ := hrel
    clear hown
    by_cases hlt : j < bs.length
    · obtain ⟨g, rfl⟩ : ∃ g, A = some ⟨g, 0, none⟩ := by
        rcases ho.2 with ⟨_, h2⟩ | ⟨g, cap, cur, hv, _⟩
        · omega
        · injection hv with hA
          exact ⟨g, hA⟩
      have hfz := ho.frozenAt j
      obtain ⟨u, hu⟩ : ∃ u, wr.cell? ⟨g, j, none⟩ = some u := by
        rw [ho.cellAt j (by omega)]
        exact ⟨_, List.getElem?_eq_getElem (by rw [cellsOf_length]; simp [marks_length]; omega)⟩
      have R := ho.stored j (.int .u8 (((k : Int) + j) % 256))
      rw [mark_step k j bs hlt] at R
      have R1 := Lib.hid R.1
      have R2 := Lib.hid (grownBy_trans hg (by simpa [Value.ownBlock] using R.2))
      clear R ho hg
      go_wp2
      go_roundw
      case rel => exact ⟨j + 1, by omega, by go_num, by go_num, R1.out, R2.out⟩
      case measure => simp [intOf]; omega
    · obtain rfl : j = bs.length := by omega
      go_wp2
      go_ret
      exact ⟨rfl, by simpa using ho, hg⟩

set_option maxHeartbeats 400000 in
/-- A slice that bears the marks from k on is found to bear them. -/
theorem heldB (A : Option Addr) (n c : Nat) (k : Nat) (w : World) (hr : RB w w.heap.size A (marks k n)) (hn : n ≤ 1048576) (hk : k ≤ 1048576) :
    Calls Try.prog 50 #[.slice A n c, .int .i64 (k : Int)] w fun e w' => e = .returned (.int .i64 ((k : Int) + n)) ∧ w = w' := by
  go_enter Try.func50, Try.ntmps50
  go_wp2
  go_loop [1, 5] (fun q i => ∃ j : Nat, j ≤ n ∧ i = .int .i64 j ∧ q = .int .i64 ((k : Int) + j)) (fun _ i => n - (intOf i).toNat)
  case atStart => exact ⟨0, Nat.zero_le _, rfl, by go_num⟩
  case round =>
    obtain ⟨j, hj, rfl, rfl⟩ := hrel
    by_cases hlt : j < n
    · obtain ⟨g, o, rfl, hg, hc0⟩ := hr.at_ (k := j) (by rw [marks_length]; exact hlt)
      have hc : w.cell? ⟨g, o + j, none⟩ = some (.int .u8 (((k : Int) + j) % 256)) := by
        rw [hc0]
        simp [marks, mark_val]
      clear hc0 hr
      go_wp2
      go_round
      case rel => exact ⟨j + 1, by omega, by go_num, by go_num⟩
      case measure => simp [intOf]; omega
    · obtain rfl : j = n := by omega
      go_wp2
      go_ret
      exact ⟨rfl, rfl⟩

theorem eqBn (A D : Option Addr) (n c d : Nat) (bs : List UInt8) (w : World) (hx : RB w w.heap.size A bs) (hy : RB w w.heap.size D bs) (hl : bs.length = n) (hn : n ≤ 1048576) :
    Calls Try.prog 20 #[.slice A n c, .slice D n d] w fun e w' => e = .returned (.bool true) ∧ Below w.heap.size w w' := by
  subst hl
  exact eqB A D c d bs w hx hy hn

theorem markBn (A : Option Addr) (n c base : Nat) (bs : List UInt8) (k : Int) (w : World) (hown : w.ownsRow base 5 1 (.slice A n c) n (cellsOf bs)) (hn : n ≤ 1048576) (h0 : 0 ≤ k) (hk : k ≤ 1048576) :
    Calls Try.prog 21 #[.slice A n c, .int .i64 k] w fun e w' => e = .returned (.int .i64 (k + n)) ∧
      w'.ownsRow base 5 1 (.slice A n c) n (cellsOf (marks k.toNat n)) ∧ w.grownBy w' (Value.slice A n c).ownBlock := by
  have hl : bs.length = n := by
    have := hown.1
    rw [cellsOf_length] at this
    omega
  subst hl
  have h := markB A c base bs k.toNat w hown hn (by omega)
  rw [Int.toNat_of_nonneg h0] at h
  exact h

theorem heldBn (A : Option Addr) (n c : Nat) (k : Int) (w : World) (hr : RB w w.heap.size A (marks k.toNat n)) (hn : n ≤ 1048576) (h0 : 0 ≤ k) (hk : k ≤ 1048576) :
    Calls Try.prog 50 #[.slice A n c, .int .i64 k] w fun e w' => e = .returned (.int .i64 (k + n)) ∧ w = w' := by
  have h := heldB A n c k.toNat w hr hn (by omega)
  rw [Int.toNat_of_nonneg h0] at h
  exact h


end Go.Proofs.Ythcmecmjmnimhaa
