/-
  What NumRead answers, in the program and in the model.
-/
import Derived.Test.YtckakpcjbndijabDoorNumLib
import Derived.Test.YtckakpcjbndijabDoorBe
import Derived.Lib.OthersKept
namespace Go.Proofs.YtckakpcjbndijabDoor
open Go.RowKit

def NumPost (l : List UInt8) (w : World) (e : Ending) (w' : World) : Prop := e = .returned (.tuple #[.int .i64 (numR l), .bool (okNum l)]) ∧ Below w.heap.size w w'

set_option maxRecDepth 100000 in
theorem numPost_no {l : List UInt8} {w w' : World} (h : okNum l = false) (hb : Below w.heap.size w w') : NumPost l w (.returned (.tuple #[.int .i64 0, .bool false])) w' := by
  refine ⟨?_, hb⟩
  rw [numR, h]
  rfl
set_option maxRecDepth 100000 in
theorem numPost_yes {l : List UInt8} {w w' : World} (h : okNum l = true) (hb : Below w.heap.size w w') : NumPost l w (.returned (.tuple #[.int .i64 (val l : Int), .bool true])) w' := by
  refine ⟨?_, hb⟩
  rw [numR, h]
  rfl

set_option maxRecDepth 100000 in
theorem val_takeS (s : ByteArray) (k : Nat) (h : k < s.size) : val (s.data.toList.take (k + 1)) = 10 * val (s.data.toList.take k) + ((s[k]'h).toNat - 48) := val_take s.data.toList k h
set_option maxRecDepth 100000 in
theorem all_takeS (s : ByteArray) (k : Nat) (h : k < s.size) (ha : (s.data.toList.take k).all isDig = true) (hd : isDig (s[k]'h) = true) : (s.data.toList.take (k + 1)).all isDig = true := by
  rw [all_take s.data.toList k h, ha, Bool.true_and]
  exact hd
set_option maxRecDepth 100000 in
theorem okNum_digS (s : ByteArray) (k : Nat) (h : k < s.size) (hd : isDig (s[k]'h) = false) : okNum s.data.toList = false := okNum_dig s.data.toList k h hd

set_option maxRecDepth 100000 in
set_option maxHeartbeats 400000 in
theorem withinR_yes (n lo hi : Int) (w : World) (h1 : lo ≤ n) (h2 : n ≤ hi) :
    Calls Tryd.prog 73 #[.int .i32 n, .int .i32 lo, .int .i32 hi] w fun e w' => e = .returned (.bool true) ∧ w = w' := by
  have h3 : ¬ n < lo := by omega
  have h4 : ¬ hi < n := by omega
  go_enter Tryd.func73, Tryd.ntmps73
  go_wp2
  go_ret
  exact ⟨rfl, rfl⟩

set_option maxRecDepth 100000 in
set_option maxHeartbeats 400000 in
theorem withinR_no (n lo hi : Int) (w : World) (h : n < lo ∨ hi < n) :
    Calls Tryd.prog 73 #[.int .i32 n, .int .i32 lo, .int .i32 hi] w fun e w' => e = .returned (.bool false) ∧ w = w' := by
  by_cases h1 : n < lo
  · have h2 : (lo == n) = false := by simp; omega
    go_enter Tryd.func73, Tryd.ntmps73
    go_wp2
    go_ret
    exact ⟨rfl, rfl⟩
  · have h3 : hi < n := by omega
    have h2 : (hi == n) = false := by simp; omega
    go_enter Tryd.func73, Tryd.ntmps73
    go_wp2
    go_ret
    exact ⟨rfl, rfl⟩

set_option maxRecDepth 100000 in
set_option maxHeartbeats 1000000 in
theorem implNumRead_len (s : ByteArray) (w : World) (hs : s.size ≤ 1048576) (h : ¬ (1 ≤ s.size ∧ s.size ≤ 12)) :
    Calls Tryd.prog 46 #[.string s] w (NumPost s.data.toList w) := by
  have hno := Lib.hid (show (s.size : Int) < 1 ∨ (12 : Int) < s.size by omega)
  have hok := Lib.hid (okNum_len s.data.toList h)
  clear h
  go_enter Tryd.func46, Tryd.ntmps46
  go_wp2_with (go_at_call 70; refine (within_no _ _ _ _ hno.out).mono ?_; rintro e w' ⟨rfl, rfl⟩)
  go_ret2
  exact numPost_no hok.out (Below.refl _ _)

set_option maxRecDepth 100000 in
set_option maxHeartbeats 1000000 in
theorem implNumRead_zero (s : ByteArray) (w : World) (h1 : 1 < s.size) (h2 : s.size ≤ 12) (h0 : s[0].toNat = 48) :
    Calls Tryd.prog 46 #[.string s] w (NumPost s.data.toList w) := by
  have hok := Lib.hid (okNum_zero s.data.toList h1 (by
    rw [List.head?_eq_getElem?, List.getElem?_eq_getElem (by simpa using (show 0 < s.size by omega))]
    have : s.data.toList[0]'(by simpa using (show 0 < s.size by omega)) = s[0] := rfl
    rw [this]
    have e : s[0] = 48 := UInt8.toNat_inj.1 h0
    rw [e]))
  have h48 : ((s[0].toNat : Int) == 48) = true := by simp; omega
  clear h0
  go_enter Tryd.func46, Tryd.ntmps46
  go_wp2_with (go_at_call 70; refine (within_yes _ _ _ _ (by omega) (by omega)).mono ?_; rintro e w' ⟨rfl, rfl⟩)
  go_ret2
  exact numPost_no hok.out (Below.refl _ _)

set_option maxRecDepth 100000 in
set_option maxHeartbeats 1000000 in
theorem implNumRead_loop (s : ByteArray) (w : World) (h1 : 1 ≤ s.size) (h2 : s.size ≤ 12) (h0 : s.size = 1 ∨ s[0].toNat ≠ 48) :
    Calls Tryd.prog 46 #[.string s] w (NumPost s.data.toList w) := by
  have hhead := Lib.hid (show s.data.toList.length = 1 ∨ s.data.toList.head? ≠ some 48 by
    rcases h0 with h | h
    · exact .inl h
    · right
      intro e
      apply h
      rw [List.head?_eq_getElem?, List.getElem?_eq_getElem (by simpa using (show 0 < s.size by omega))] at e
      have e2 : s.data.toList[0]'(by simpa using (show 0 < s.size by omega)) = s[0] := rfl
      rw [e2] at e
      injection e with e
      rw [e]
      rfl)
  have h48 : s.size ≠ 1 → ((s[0].toNat : Int) == 48) = false := by intro h; simp; omega
  by_cases hone : s.size = 1
  · have hgt : ¬ (1 : Int) < s.size := by omega
    clear h0 h48
    go_enter Tryd.func46, Tryd.ntmps46
    go_wp2_with (go_at_call 70; refine (within_yes _ _ _ _ (by omega) (by omega)).mono ?_; rintro e w' ⟨rfl, rfl⟩)
    go_loopw [4] (fun q wr => ∃ k : Nat, k ≤ s.size ∧ q = .int .i64 (val (s.data.toList.take k) : Int) ∧ (s.data.toList.take k).all isDig = true ∧ wr.heap[w.heap.size]? = some (.stringIter s k) ∧ Below w.heap.size w wr) (fun _ wr => s.size - wr.iterPos w.heap.size)
    case atStart => exact ⟨0, Nat.zero_le _, rfl, rfl, World.iter_heap _ _ _, (Below.refl _ _).alloc (Nat.le_refl _) _⟩
    case round =>
      obtain ⟨k, hk, rfl, hall, hit, hb⟩ := hrel
      have hsz : w.heap.size < wr.heap.size := (Array.getElem?_eq_some_iff.1 hit).1
      have hv := val_lt (s.data.toList.take k) hall (Nat.le_trans (List.length_take_le _ _) (by omega))
      by_cases hlt : k < s.size
      · have hl : k < s.data.toList.length := by simpa using hlt
        by_cases hdig : isDig (s[k]'hlt) = true
        · have hd := isDig_of _ hdig
          have hnx : ∀ ty, (Instr.next (.pointer (some ⟨w.heap.size, 0, none⟩)) true ty).run Tryd.prog wr = _ := fun ty => Lib.run_next_ascii_at wr w.heap.size s k ty hit hlt (by omega)
          have hit2 := Lib.hid (Lib.iterAt_heap wr w.heap.size s k (k + 1) hit)
          have hb2 := Lib.hid (Lib.below_iterAt hb (k := w.heap.size) (Nat.le_refl _) s (k + 1))
          have hvt := Lib.hid (val_takeS s k hlt)
          have hat := Lib.hid (all_takeS s k hlt hall hdig)
          have hit := Lib.hid hit
          clear hall
          go_wp2_with (go_at_call 73; refine (withinR_yes _ _ _ _ (by omega) (by omega)).mono ?_; rintro e w' ⟨rfl, rfl⟩)
          go_roundw
          case rel => exact ⟨k + 1, by omega, by rw [hvt.out]; go_num, hat.out, hit2.out, hb2.out⟩
          case measure => simp only [World.iterPos, hit2.out, hit.out]; omega
        · have hok := Lib.hid (okNum_digS s k hlt (by simpa using hdig))
          have hno : ∃ r : Nat, (Utf8.decode s k).1 = r ∧ (r < 48 ∨ 57 < r) ∧ r ≤ 2147483647 := by
            refine ⟨_, rfl, ?_, decode_le s k⟩
            by_cases ha : (s[k]'hlt).toNat < 128
            · rw [decode_ascii s k hlt ha]
              simp only [isDig, decide_eq_true_eq] at hdig
              omega
            · have := (decode_high s k hlt (by omega)).1
              omega
          obtain ⟨r, hr, hr2, hr3⟩ := hno
          have hnx : ∀ ty, (Instr.next (.pointer (some ⟨w.heap.size, 0, none⟩)) true ty).run Tryd.prog wr = .ok (.tuple #[.bool true, .int .i64 k, .int .i32 r]) (wr.iterAt w.heap.size s (k + (Utf8.decode s k).2)) := fun ty => by
            rw [← hr]
            exact Lib.run_next_any_at wr w.heap.size s k ty hit hlt
          have hb2 := Lib.hid (Lib.below_iterAt hb (k := w.heap.size) (Nat.le_refl _) s (k + (Utf8.decode s k).2))
          have hr4 := Lib.hid (show (r : Int) < 48 ∨ (57 : Int) < r by omega)
          clear hr hr2 hit hdig hall
          go_wp2_with (go_at_call 73; refine (withinR_no _ _ _ _ hr4.out).mono ?_; rintro e w' ⟨rfl, rfl⟩)
          go_ret2
          exact numPost_no hok.out hb2.out
      · obtain rfl : k = s.size := by omega
        have hnx : ∀ ty, (Instr.next (.pointer (some ⟨w.heap.size, 0, none⟩)) true ty).run Tryd.prog wr = _ := fun ty => Lib.run_next_end_at wr w.heap.size s s.size ty hit hlt
        have hfull : s.data.toList.take s.size = s.data.toList := List.take_of_length_le (by simp)
        rw [hfull] at hall
        have hok := Lib.hid (okNum_yes s.data.toList h1 h2 hall hhead.out)
        rw [hfull]
        clear hall hfull
        go_wp2
        go_ret2
        exact numPost_yes hok.out hb
  · have h48 := h48 hone
    have hgt : (1 : Int) < s.size := by omega
    clear h0
    go_enter Tryd.func46, Tryd.ntmps46
    go_wp2_with (go_at_call 70; refine (within_yes _ _ _ _ (by omega) (by omega)).mono ?_; rintro e w' ⟨rfl, rfl⟩)
    go_loopw [4] (fun q wr => ∃ k : Nat, k ≤ s.size ∧ q = .int .i64 (val (s.data.toList.take k) : Int) ∧ (s.data.toList.take k).all isDig = true ∧ wr.heap[w.heap.size]? = some (.stringIter s k) ∧ Below w.heap.size w wr) (fun _ wr => s.size - wr.iterPos w.heap.size)
    case atStart => exact ⟨0, Nat.zero_le _, rfl, rfl, World.iter_heap _ _ _, (Below.refl _ _).alloc (Nat.le_refl _) _⟩
    case round =>
      obtain ⟨k, hk, rfl, hall, hit, hb⟩ := hrel
      have hsz : w.heap.size < wr.heap.size := (Array.getElem?_eq_some_iff.1 hit).1
      have hv := val_lt (s.data.toList.take k) hall (Nat.le_trans (List.length_take_le _ _) (by omega))
      by_cases hlt : k < s.size
      · have hl : k < s.data.toList.length := by simpa using hlt
        by_cases hdig : isDig (s[k]'hlt) = true
        · have hd := isDig_of _ hdig
          have hnx : ∀ ty, (Instr.next (.pointer (some ⟨w.heap.size, 0, none⟩)) true ty).run Tryd.prog wr = _ := fun ty => Lib.run_next_ascii_at wr w.heap.size s k ty hit hlt (by omega)
          have hit2 := Lib.hid (Lib.iterAt_heap wr w.heap.size s k (k + 1) hit)
          have hb2 := Lib.hid (Lib.below_iterAt hb (k := w.heap.size) (Nat.le_refl _) s (k + 1))
          have hvt := Lib.hid (val_takeS s k hlt)
          have hat := Lib.hid (all_takeS s k hlt hall hdig)
          have hit := Lib.hid hit
          clear hall
          go_wp2_with (go_at_call 73; refine (withinR_yes _ _ _ _ (by omega) (by omega)).mono ?_; rintro e w' ⟨rfl, rfl⟩)
          go_roundw
          case rel => exact ⟨k + 1, by omega, by rw [hvt.out]; go_num, hat.out, hit2.out, hb2.out⟩
          case measure => simp only [World.iterPos, hit2.out, hit.out]; omega
        · have hok := Lib.hid (okNum_digS s k hlt (by simpa using hdig))
          have hno : ∃ r : Nat, (Utf8.decode s k).1 = r ∧ (r < 48 ∨ 57 < r) ∧ r ≤ 2147483647 := by
            refine ⟨_, rfl, ?_, decode_le s k⟩
            by_cases ha : (s[k]'hlt).toNat < 128
            · rw [decode_ascii s k hlt ha]
              simp only [isDig, decide_eq_true_eq] at hdig
              omega
            · have := (decode_high s k hlt (by omega)).1
              omega
          obtain ⟨r, hr, hr2, hr3⟩ := hno
          have hnx : ∀ ty, (Instr.next (.pointer (some ⟨w.heap.size, 0, none⟩)) true ty).run Tryd.prog wr = .ok (.tuple #[.bool true, .int .i64 k, .int .i32 r]) (wr.iterAt w.heap.size s (k + (Utf8.decode s k).2)) := fun ty => by
            rw [← hr]
            exact Lib.run_next_any_at wr w.heap.size s k ty hit hlt
          have hb2 := Lib.hid (Lib.below_iterAt hb (k := w.heap.size) (Nat.le_refl _) s (k + (Utf8.decode s k).2))
          have hr4 := Lib.hid (show (r : Int) < 48 ∨ (57 : Int) < r by omega)
          clear hr hr2 hit hdig hall
          go_wp2_with (go_at_call 73; refine (withinR_no _ _ _ _ hr4.out).mono ?_; rintro e w' ⟨rfl, rfl⟩)
          go_ret2
          exact numPost_no hok.out hb2.out
      · obtain rfl : k = s.size := by omega
        have hnx : ∀ ty, (Instr.next (.pointer (some ⟨w.heap.size, 0, none⟩)) true ty).run Tryd.prog wr = _ := fun ty => Lib.run_next_end_at wr w.heap.size s s.size ty hit hlt
        have hfull : s.data.toList.take s.size = s.data.toList := List.take_of_length_le (by simp)
        rw [hfull] at hall
        have hok := Lib.hid (okNum_yes s.data.toList h1 h2 hall hhead.out)
        rw [hfull]
        clear hall hfull
        go_wp2
        go_ret2
        exact numPost_yes hok.out hb

set_option maxRecDepth 100000 in
set_option maxHeartbeats 1000000 in
theorem specNumRead (s : ByteArray) (w : World) (hs : s.size ≤ 1048576) :
    Calls Tryd.prog 44 #[.string s] w (NumPost s.data.toList w) := by
  by_cases hlo : s.size < 1
  · have hok := Lib.hid (okNum_len s.data.toList (show ¬ (1 ≤ s.size ∧ s.size ≤ 12) by omega))
    go_enter Tryd.func44, Tryd.ntmps44
    go_wp2
    go_ret2
    exact numPost_no hok.out (Below.refl _ _)
  · by_cases hhi : 12 < s.size
    · have hok := Lib.hid (okNum_len s.data.toList (show ¬ (1 ≤ s.size ∧ s.size ≤ 12) by omega))
      go_enter Tryd.func44, Tryd.ntmps44
      go_wp2
      go_ret2
      exact numPost_no hok.out (Below.refl _ _)
    · go_enter Tryd.func44, Tryd.ntmps44
      go_wp2
      go_loop [4, 5] (fun q i => ∃ k : Nat, k ≤ s.size ∧ i = .int .i64 k ∧ q = .int .i64 (val (s.data.toList.take k) : Int) ∧ (s.data.toList.take k).all isDig = true) (fun _ i => s.size - (intOf i).toNat)
      case atStart => exact ⟨0, Nat.zero_le _, rfl, rfl, rfl⟩
      case round =>
        obtain ⟨k, hk, rfl, rfl, hall⟩ := hrel
        have hv := val_lt (s.data.toList.take k) hall (Nat.le_trans (List.length_take_le _ _) (by omega))
        by_cases hlt : k < s.size
        · by_cases hdig : isDig (s[k]'hlt) = true
          · have hd := isDig_of _ hdig
            have hvt := Lib.hid (val_takeS s k hlt)
            have hat := Lib.hid (all_takeS s k hlt hall hdig)
            have hd1 : ¬ ((s[k]'hlt).toNat : Int) < 48 := by omega
            have hd2 : ¬ (57 : Int) < ((s[k]'hlt).toNat : Int) := by omega
            clear hall hdig
            go_wp2
            go_round
            case rel => exact ⟨k + 1, by omega, by go_num, by rw [hvt.out]; go_num, hat.out⟩
            case measure => simp [intOf]; omega
          · have hok := Lib.hid (okNum_digS s k hlt (by simpa using hdig))
            simp only [isDig, decide_eq_true_eq] at hdig
            by_cases hd1 : ((s[k]'hlt).toNat : Int) < 48
            · clear hall hdig
              go_wp2
              go_ret2
              exact numPost_no hok.out (Below.refl _ _)
            · have hd2 : (57 : Int) < ((s[k]'hlt).toNat : Int) := by omega
              clear hall hdig
              go_wp2
              go_ret2
              exact numPost_no hok.out (Below.refl _ _)
        · obtain rfl : k = s.size := by omega
          have hfull : s.data.toList.take s.size = s.data.toList := List.take_of_length_le (by simp)
          rw [hfull] at hall hv
          rw [hfull]
          have hall := Lib.hid hall
          clear hfull
          by_cases heq : numText (val s.data.toList : Int) = s.data.toList
          · have h3 : s.data.toList.length = 1 ∨ s.data.toList.head? ≠ some 48 := by
              by_cases h3 : s.data.toList.length = 1
              · exact .inl h3
              · right
                intro h4
                exact numText_not s.data.toList (show 1 < s.size by have : s.size ≠ 1 := h3; omega) h4 heq
            have hok := Lib.hid (okNum_yes s.data.toList (show 1 ≤ s.size by omega) (show s.size ≤ 12 by omega) hall.out h3)
            have hsame : (!(strOf (numText (val s.data.toList : Int))).toList == s.toList) = false := by rw [heq, strOf_toList]; simp
            clear heq h3
            go_wp2_with (go_at_call 29; refine (specNumText _ _ (by omega)).mono ?_; rintro e w1 ⟨rfl, hb1⟩)
            go_ret2
            exact numPost_yes hok.out hb1
          · have hok := Lib.hid (show okNum s.data.toList = false by
              rcases Bool.eq_false_or_eq_true (okNum s.data.toList) with h | h
              · simp only [okNum, Bool.and_eq_true, Bool.or_eq_true, decide_eq_true_eq] at h
                exact absurd (numText_val s.data.toList h.1.2 h.1.1.1 h.2) heq
              · exact h)
            have hsame : (!(strOf (numText (val s.data.toList : Int))).toList == s.toList) = true := by
              simp
              intro e
              apply heq
              rw [ByteArray.toList_eq, ByteArray.toList_eq] at e
              exact e
            clear heq
            go_wp2_with (go_at_call 29; refine (specNumText _ _ (by omega)).mono ?_; rintro e w1 ⟨rfl, hb1⟩)
            go_ret2
            exact numPost_no hok.out hb1

set_option maxRecDepth 100000 in
theorem implNumRead (s : ByteArray) (w : World) (hs : s.size ≤ 1048576) : Calls Tryd.prog 46 #[.string s] w (NumPost s.data.toList w) := by
  by_cases h : 1 ≤ s.size ∧ s.size ≤ 12
  · by_cases h0 : s.size = 1 ∨ (s[0]'(by omega)).toNat ≠ 48
    · exact implNumRead_loop s w h.1 h.2 h0
    · exact implNumRead_zero s w (by omega) h.2 (by omega)
  · exact implNumRead_len s w hs h
end Go.Proofs.YtckakpcjbndijabDoor
