/-
  Reading a group of at most four hexadecimal digits, in the program.
-/
import Derived.Test.YtckakpcjbndijabDoorReadLib2
import Derived.Test.YtckakpcjbndijabDoorHexRead
namespace Go.Proofs.YtckakpcjbndijabDoor
open Go.RowKit

set_option maxRecDepth 100000 in
theorem valG_snoc (l : List UInt8) (b : UInt8) : valG (l ++ [b]) = 16 * valG l + hexV b := by simp [valG]
set_option maxRecDepth 100000 in
theorem valG_take (l : List UInt8) (k : Nat) (h : k < l.length) : valG (l.take (k + 1)) = 16 * valG (l.take k) + hexV l[k] := by rw [take_snoc l k h, valG_snoc]
set_option maxRecDepth 100000 in
theorem valG_takeS (s : ByteArray) (k : Nat) (h : k < s.size) : valG (s.data.toList.take (k + 1)) = 16 * valG (s.data.toList.take k) + hexV (s[k]'h) := valG_take s.data.toList k h
def isHx (b : UInt8) : Bool := decide (hexV b < 16)
set_option maxRecDepth 100000 in
theorem valG_lt (l : List UInt8) (h : ∀ b ∈ l, hexV b < 16) : valG l < 16 ^ l.length := by
  obtain ⟨n, hn⟩ : ∃ n, l.length = n := ⟨_, rfl⟩
  induction n generalizing l with
  | zero =>
    obtain rfl : l = [] := List.eq_nil_of_length_eq_zero hn
    simp [valG]
  | succ n ih =>
    obtain ⟨i, b, rfl⟩ : ∃ i b, l = i ++ [b] := by
      rcases List.eq_nil_or_concat l with h | ⟨i, b, h⟩
      · rw [h] at hn; cases hn
      · exact ⟨i, b, by rw [h, List.concat_eq_append]⟩
    have h1 := ih i (fun c hc => h c (by simp [hc])) (by simp at hn; omega)
    have h2 := h b (by simp)
    rw [valG_snoc, List.length_append, List.length_singleton, Nat.pow_succ]
    omega
set_option maxRecDepth 100000 in
theorem okG_len (l : List UInt8) (h : ¬ (1 ≤ l.length ∧ l.length ≤ 4)) : okG l = false := by simp [okG, h]
set_option maxRecDepth 100000 in
theorem okG_zero (l : List UInt8) (h : 1 < l.length) (hh : l.head? = some 48) : okG l = false := by simp [okG, hh, show l.length ≠ 1 by omega]
set_option maxRecDepth 100000 in
theorem okG_bad (l : List UInt8) (k : Nat) (h : k < l.length) (hd : ¬ hexV l[k] < 16) : okG l = false := by
  have : (l.all fun b => decide (hexV b < 16)) = false := by
    rw [List.all_eq_false]
    exact ⟨l[k], List.getElem_mem h, by simpa using hd⟩
  simp [okG, this]
set_option maxRecDepth 100000 in
theorem okG_badS (s : ByteArray) (k : Nat) (h : k < s.size) (hd : ¬ hexV (s[k]'h) < 16) : okG s.data.toList = false := okG_bad s.data.toList k h hd
set_option maxRecDepth 100000 in
theorem okG_yes (l : List UInt8) (h1 : 1 ≤ l.length) (h2 : l.length ≤ 4) (hd : ∀ b ∈ l, hexV b < 16) (h3 : l.length = 1 ∨ l.head? ≠ some 48) : okG l = true := by
  simp only [okG, Bool.and_eq_true, Bool.or_eq_true, decide_eq_true_eq, List.all_eq_true]
  exact ⟨⟨⟨h1, h2⟩, hd⟩, h3⟩
set_option maxRecDepth 100000 in
theorem take_all (s : ByteArray) (k : Nat) (h : k < s.size) (ha : ∀ b ∈ s.data.toList.take k, hexV b < 16) (hd : hexV (s[k]'h) < 16) : ∀ b ∈ s.data.toList.take (k + 1), hexV b < 16 := by
  intro b hb
  rw [take_snoc s.data.toList k h] at hb
  rcases List.mem_append.1 hb with h1 | h1
  · exact ha b h1
  · rw [List.mem_singleton.1 h1]
    exact hd

def grpV (l : List UInt8) : Nat := if okG l then valG l else 0
def GroupPost (l : List UInt8) (w : World) (e : Ending) (w' : World) : Prop := e = .returned (.tuple #[.int .i64 (grpV l : Int), .bool (okG l)]) ∧ Below w.heap.size w w'
set_option maxRecDepth 100000 in
theorem groupPost_no {l : List UInt8} {w w' : World} (h : okG l = false) (hb : Below w.heap.size w w') : GroupPost l w (.returned (.tuple #[.int .i64 0, .bool false])) w' := by
  refine ⟨?_, hb⟩
  rw [grpV, h]
  rfl
set_option maxRecDepth 100000 in
theorem groupPost_yes {l : List UInt8} {w w' : World} (h : okG l = true) (hb : Below w.heap.size w w') : GroupPost l w (.returned (.tuple #[.int .i64 (valG l : Int), .bool true])) w' := by
  refine ⟨?_, hb⟩
  rw [grpV, h]
  rfl
set_option maxRecDepth 100000 in
theorem or_nib64 (x d : Nat) (hx : x < 4096) (hd : d < 16) : bits .or .i64 ((x : Int) * 16) (d : Int) = (x : Int) * 16 + d := by
  have e : ((x : Int) * 16) = ((16 * x : Nat) : Int) := by omega
  have ho : 16 * x ||| d = 16 * x + d := (Nat.two_pow_add_eq_or_of_lt (i := 4) (by simpa using hd) x).symm
  have t : ∀ n : Nat, n < 65536 → (BitVec.ofInt 64 (n : Int)).toNat = n := fun n hn => by
    rw [BitVec.ofInt_natCast, BitVec.toNat_ofNat]
    exact Nat.mod_eq_of_lt (by omega)
  rw [e]
  show IntKind.i64.wrap ((BitVec.ofInt 64 ((16 * x : Nat) : Int) ||| BitVec.ofInt 64 (d : Int)).toNat : Int) = _
  rw [BitVec.toNat_or, t _ (by omega), t d (by omega), ho, IntKind.wrap_i64]
  omega

set_option maxRecDepth 100000 in
set_option maxHeartbeats 1000000 in
theorem groupRead_len (s : ByteArray) (w : World) (hs : s.size ≤ 1048576) (h : ¬ (1 ≤ s.size ∧ s.size ≤ 4)) :
    Calls Tryd.prog 68 #[.string s] w (GroupPost s.data.toList w) := by
  have hno := Lib.hid (show (s.size : Int) < 1 ∨ (4 : Int) < s.size by omega)
  have hok := Lib.hid (okG_len s.data.toList h)
  clear h
  go_enter Tryd.func68, Tryd.ntmps68
  go_wp2_with (go_at_call 70; refine (within_no _ _ _ _ hno.out).mono ?_; rintro e w' ⟨rfl, rfl⟩)
  go_ret2
  exact groupPost_no hok.out (Below.refl _ _)

set_option maxRecDepth 100000 in
set_option maxHeartbeats 1000000 in
theorem groupRead_zero (s : ByteArray) (w : World) (h1 : 1 < s.size) (h2 : s.size ≤ 4) (h0 : s[0].toNat = 48) :
    Calls Tryd.prog 68 #[.string s] w (GroupPost s.data.toList w) := by
  have hok := Lib.hid (okG_zero s.data.toList h1 (by
    rw [List.head?_eq_getElem?, List.getElem?_eq_getElem (by simpa using (show 0 < s.size by omega))]
    have : s.data.toList[0]'(by simpa using (show 0 < s.size by omega)) = s[0] := rfl
    rw [this]
    have e : s[0] = 48 := UInt8.toNat_inj.1 h0
    rw [e]))
  have h48 : ((s[0].toNat : Int) == 48) = true := by simp; omega
  clear h0
  go_enter Tryd.func68, Tryd.ntmps68
  go_wp2_with (go_at_call 70; refine (within_yes _ _ _ _ (by omega) (by omega)).mono ?_; rintro e w' ⟨rfl, rfl⟩)
  go_ret2
  exact groupPost_no hok.out (Below.refl _ _)

set_option maxRecDepth 100000 in
set_option maxHeartbeats 2000000 in
theorem groupRead_loop (s : ByteArray) (w : World) (h1 : 1 ≤ s.size) (h2 : s.size ≤ 4) (h0 : s.size = 1 ∨ s[0].toNat ≠ 48) :
    Calls Tryd.prog 68 #[.string s] w (GroupPost s.data.toList w) := by
  have hhead := Lib.hid (show s.data.toList.length = 1 ∨ s.data.toList.head? ≠ some 48 by
    rcases h0 with h | h
    · exact .inl h
    · right
      intro e
      apply h
      rw [List.head?_eq_getElem?, List.getElem?_eq_getElem (by simpa using (show 0 < s.size by omega))] at e
      have e2 : s.data.toList[0]'(by simpa using (show 0 < s.size by omega)) = s[0] := rfl
      rw [e2] at e
      injection e with e
      rw [e]
      rfl)
  have hcase : (¬ (1 : Int) < s.size) ∨ ((1 : Int) < s.size ∧ ((s[0].toNat : Int) == 48) = false) := by
    rcases h0 with h | h
    · exact .inl (by omega)
    · by_cases hone : (1 : Int) < s.size
      · exact .inr ⟨hone, by simp; omega⟩
      · exact .inl hone
  clear h0
  rcases hcase with hgt | ⟨hgt, h48⟩
  all_goals
    go_enter Tryd.func68, Tryd.ntmps68
    go_wp2_with (go_at_call 70; refine (within_yes _ _ _ _ (by omega) (by omega)).mono ?_; rintro e w' ⟨rfl, rfl⟩)
    go_loopw [4] (fun q wr => ∃ k : Nat, k ≤ s.size ∧ q = .int .i64 (valG (s.data.toList.take k) : Int) ∧ Hid (∀ b ∈ s.data.toList.take k, hexV b < 16) ∧ wr.heap[w.heap.size]? = some (.stringIter s k) ∧ Below w.heap.size w wr) (fun _ wr => s.size - wr.iterPos w.heap.size)
    case atStart => exact ⟨0, Nat.zero_le _, rfl, Lib.hid (by simp), World.iter_heap _ _ _, (Below.refl _ _).alloc (Nat.le_refl _) _⟩
    case round =>
      obtain ⟨k, hk, rfl, hall, hit, hb⟩ := hrel
      have hsz : w.heap.size < wr.heap.size := (Array.getElem?_eq_some_iff.1 hit).1
      by_cases hlt : k < s.size
      · have hv4 : valG (s.data.toList.take k) < 4096 := by
          have h := valG_lt _ hall.out
          have hl : (s.data.toList.take k).length ≤ 3 := Nat.le_trans (List.length_take_le _ _) (by omega)
          have := Nat.pow_le_pow_right (show 0 < 16 by omega) hl
          omega
        by_cases hd : hexV (s[k]'hlt) < 16
        · have hlt256 : (s[k]'hlt).toNat < 128 := by
            unfold hexV at hd
            split at hd
            · omega
            · split at hd <;> omega
          have hnx : ∀ ty, (Instr.next (.pointer (some ⟨w.heap.size, 0, none⟩)) true ty).run Tryd.prog wr = _ := fun ty => Lib.run_next_ascii_at wr w.heap.size s k ty hit hlt hlt256
          have hit2 := Lib.hid (Lib.iterAt_heap wr w.heap.size s k (k + 1) hit)
          have hb2 := Lib.hid (Lib.below_iterAt hb (k := w.heap.size) (Nat.le_refl _) s (k + 1))
          have hvt := Lib.hid (valG_takeS s k hlt)
          have hat := Lib.hid (take_all s k hlt hall.out hd)
          have hor := or_nib64 _ (hexV (s[k]'hlt)) hv4 hd
          have hit := Lib.hid hit
          go_wp2_with (go_at_call 91; refine (implDigit _ _ hd).mono ?_; rintro e w' ⟨rfl, rfl⟩)
          go_roundw
          case rel => exact ⟨k + 1, by omega, by rw [hvt.out]; go_num, Lib.hid hat.out, hit2.out, hb2.out⟩
          case measure => simp only [World.iterPos, hit2.out, hit.out]; omega
        · have hok := Lib.hid (okG_badS s k hlt hd)
          have hno : ∃ r : Nat, (Utf8.decode s k).1 = r ∧ ((r < 48 ∨ 57 < r) ∧ (r < 97 ∨ 102 < r)) ∧ r ≤ 2147483647 := by
            refine ⟨_, rfl, ?_, decode_le s k⟩
            by_cases ha : (s[k]'hlt).toNat < 128
            · rw [decode_ascii s k hlt ha]
              unfold hexV at hd
              split at hd
              · omega
              · split at hd <;> omega
            · have := (decode_high s k hlt (by omega)).1
              omega
          obtain ⟨r, hr, hr2, hr3⟩ := hno
          have hnx : ∀ ty, (Instr.next (.pointer (some ⟨w.heap.size, 0, none⟩)) true ty).run Tryd.prog wr = .ok (.tuple #[.bool true, .int .i64 k, .int .i32 r]) (wr.iterAt w.heap.size s (k + (Utf8.decode s k).2)) := fun ty => by
            rw [← hr]
            exact Lib.run_next_any_at wr w.heap.size s k ty hit hlt
          have hb2 := Lib.hid (Lib.below_iterAt hb (k := w.heap.size) (Nat.le_refl _) s (k + (Utf8.decode s k).2))
          have hr4 := Lib.hid (show ((r : Int) < 48 ∨ (57 : Int) < r) ∧ ((r : Int) < 97 ∨ (102 : Int) < r) by omega)
          clear hr hr2 hit hd hall
          go_wp2_with (go_at_call 91; refine (implDigit_no _ _ hr4.out.1 hr4.out.2).mono ?_; rintro e w' ⟨rfl, rfl⟩)
          go_ret2
          exact groupPost_no hok.out hb2.out
      · obtain rfl : k = s.size := by omega
        have hnx : ∀ ty, (Instr.next (.pointer (some ⟨w.heap.size, 0, none⟩)) true ty).run Tryd.prog wr = _ := fun ty => Lib.run_next_end_at wr w.heap.size s s.size ty hit hlt
        have et : s.data.toList.take s.size = s.data.toList := List.take_of_length_le (by simp)
        have hok := Lib.hid (okG_yes s.data.toList h1 h2 (by have := hall.out; rwa [et] at this) hhead.out)
        rw [et]
        clear hall hit et
        go_wp2
        go_ret2
        exact groupPost_yes hok.out hb

set_option maxRecDepth 100000 in
theorem implGroupRead (s : ByteArray) (w : World) (hs : s.size ≤ 1048576) : Calls Tryd.prog 68 #[.string s] w (GroupPost s.data.toList w) := by
  by_cases h : 1 ≤ s.size ∧ s.size ≤ 4
  · by_cases h0 : s.size = 1 ∨ (s[0]'(by omega)).toNat ≠ 48
    · exact groupRead_loop s w h.1 h.2 h0
    · exact groupRead_zero s w (by omega) h.2 (by omega)
  · exact groupRead_len s w hs h
end Go.Proofs.YtckakpcjbndijabDoor
