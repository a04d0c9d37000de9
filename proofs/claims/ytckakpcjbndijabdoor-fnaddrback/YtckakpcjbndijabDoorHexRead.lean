/-
  What HexRead answers, in the program and in the model.
-/
import Derived.Test.YtckakpcjbndijabDoorHexLib
import Derived.Test.YtckakpcjbndijabDoorNumRead
namespace Go.Proofs.YtckakpcjbndijabDoor
open Go.RowKit

def HexPost (l : List UInt8) (w : World) (e : Ending) (w' : World) : Prop :=
  ∃ A c, e = .returned (.tuple #[.slice A (hexR l).length c, .bool (okHex l)]) ∧ w'.ownsRow w.heap.size 5 1 (.slice A (hexR l).length c) (hexR l).length (cellsOf (hexR l)) ∧ Below w.heap.size w w'

set_option maxRecDepth 100000 in
theorem hexPost_no {l : List UInt8} {w w' : World} (h : okHex l = false) (hb : Below w.heap.size w w') : HexPost l w (.returned (.tuple #[.slice none 0 0, .bool false])) w' := by
  refine ⟨none, 0, ?_, ?_, hb⟩
  · rw [hexR, h]; rfl
  · rw [hexR, h]; exact World.ownsRow_nil _ _ _ _
set_option maxRecDepth 100000 in
theorem hexPost_yes {l : List UInt8} {w w' : World} {A : Option Addr} {n c : Nat} (h : okHex l = true) (hn : n = l.length / 2) (ho : w'.ownsRow w.heap.size 5 1 (.slice A n c) n (cellsOf (hexBytes l))) (hb : Below w.heap.size w w') :
    HexPost l w (.returned (.tuple #[.slice A n c, .bool true])) w' := by
  have e : hexR l = hexBytes l := by rw [hexR, h]; rfl
  refine ⟨A, c, ?_, ?_, hb⟩
  · rw [e, hexBytes_length, h, hn]
  · rw [e, hexBytes_length, ← hn]; exact ho

set_option maxRecDepth 100000 in
set_option maxHeartbeats 400000 in
theorem implDigit (b : UInt8) (w : World) (h : hexV b < 16) :
    Calls Tryd.prog 91 #[.int .i32 (b.toNat : Int)] w fun e w' => e = .returned (.tuple #[.int .u8 (hexV b : Int), .bool true]) ∧ w = w' := by
  by_cases h1 : 48 ≤ b.toNat ∧ b.toNat ≤ 57
  · have hv : hexV b = b.toNat - 48 := by rw [hexV, if_pos h1]
    rw [hv]
    obtain ⟨h2, h3⟩ := h1
    clear hv h
    go_enter Tryd.func91, Tryd.ntmps91
    go_wp2_with (go_at_call 73; refine (withinR_yes _ _ _ _ (by omega) (by omega)).mono ?_; rintro e w' ⟨rfl, rfl⟩)
    go_ret2
    refine ⟨?_, rfl⟩
    rw [show ((b.toNat - 48 : Nat) : Int) = (b.toNat : Int) - 48 by omega]
    rfl
  · by_cases h4 : 97 ≤ b.toNat ∧ b.toNat ≤ 102
    · have hv : hexV b = b.toNat - 87 := by rw [hexV, if_neg h1, if_pos h4]
      rw [hv]
      obtain ⟨h2, h3⟩ := h4
      have hno := Lib.hid (show (b.toNat : Int) < 48 ∨ (57 : Int) < b.toNat by omega)
      clear hv h h1
      go_enter Tryd.func91, Tryd.ntmps91
      go_wp2_with fail
      refine (withinR_no _ _ _ _ hno.out).mono ?_
      rintro e w' ⟨rfl, rfl⟩
      go_wp2_with fail
      refine (withinR_yes _ _ _ _ (by omega) (by omega)).mono ?_
      rintro e w' ⟨rfl, rfl⟩
      go_wp2
      go_ret2
      refine ⟨?_, rfl⟩
      rw [show ((b.toNat - 87 : Nat) : Int) = (b.toNat : Int) - 97 + 10 by omega]
      rfl
    · rw [hexV, if_neg h1, if_neg h4] at h
      omega

set_option maxRecDepth 100000 in
set_option maxHeartbeats 400000 in
theorem implDigit_no (r : Int) (w : World) (h1 : r < 48 ∨ 57 < r) (h2 : r < 97 ∨ 102 < r) :
    Calls Tryd.prog 91 #[.int .i32 r] w fun e w' => e = .returned (.tuple #[.int .u8 0, .bool false]) ∧ w = w' := by
  have H1 := Lib.hid h1
  have H2 := Lib.hid h2
  clear h1 h2
  go_enter Tryd.func91, Tryd.ntmps91
  go_wp2_with fail
  refine (withinR_no _ _ _ _ H1.out).mono ?_
  rintro e w' ⟨rfl, rfl⟩
  go_wp2_with fail
  refine (withinR_no _ _ _ _ H2.out).mono ?_
  rintro e w' ⟨rfl, rfl⟩
  go_wp2
  go_ret2
  exact ⟨rfl, rfl⟩

set_option maxRecDepth 100000 in
theorem or_nib (x d : Nat) (hx : x < 16) (hd : d < 16) : bits .or .u8 ((x : Int) * 16) (d : Int) = (x : Int) * 16 + d := by
  have e : ((x : Int) * 16) = ((16 * x : Nat) : Int) := by omega
  have ho : 16 * x ||| d = 16 * x + d := (Nat.two_pow_add_eq_or_of_lt (i := 4) (by simpa using hd) x).symm
  have t : ∀ n : Nat, n < 256 → (BitVec.ofInt 8 (n : Int)).toNat = n := fun n hn => by
    rw [BitVec.ofInt_natCast, BitVec.toNat_ofNat]
    exact Nat.mod_eq_of_lt (by omega)
  rw [e]
  show IntKind.u8.wrap ((BitVec.ofInt 8 ((16 * x : Nat) : Int) ||| BitVec.ofInt 8 (d : Int)).toNat : Int) = _
  rw [BitVec.toNat_or, t _ (by omega), t d (by omega), ho, IntKind.wrap_u8]
  omega

set_option maxRecDepth 100000 in
theorem grown_iterAt (w : World) (k : Nat) (s : ByteArray) (pos : Nat) : w.grownBy (w.iterAt k s pos) (some k) :=
  ⟨rfl, rfl, rfl, by rw [Lib.iterAt_size]; exact Nat.le_refl _, fun i _ hne => Lib.iterAt_other w k i s pos (fun e => hne (by rw [e]))⟩

set_option maxRecDepth 100000 in
theorem cell_byte (n : Nat) (h : n < 256) : ((UInt8.ofNat n).toNat : Int) = n := by
  simp
  omega

set_option maxRecDepth 100000 in
theorem hexAtS (s : ByteArray) (i : Nat) (h : i < s.size) : hexAt s.data.toList i = hexV (s[i]'h) := hexAt_get s.data.toList i h
set_option maxRecDepth 100000 in
theorem okHex_badS (s : ByteArray) (i : Nat) (h : i < s.size) (hb : ¬ hexV (s[i]'h) < 16) : okHex s.data.toList = false := okHex_bad s.data.toList i h hb

set_option maxRecDepth 100000 in
theorem hexRow_stored (l : List UInt8) (i x d : Nat) (hx : hexSt l i (i / 2) = x) (hd : hexAt l i = d) (h1 : x < 16) (h2 : d < 16) :
    (cellsOf (hexRow l i)).set (i / 2) (.int .u8 ((x : Int) * 16 + d)) = cellsOf (hexRow l (i + 1)) := by
  rw [← hexRow_step, hx, hd]
  have e : (((UInt8.ofNat (16 * x + d)).toNat : Nat) : Int) = (x : Int) * 16 + d := by rw [cell_byte _ (by omega)]; omega
  rw [← e]
  simp [cellsOf, List.map_set]

end Go.Proofs.YtckakpcjbndijabDoor