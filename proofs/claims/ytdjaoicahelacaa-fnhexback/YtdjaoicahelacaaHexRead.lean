/-
  What HexRead answers, in the program and in the model.
-/
import Derived.Test.YtdjaoicahelacaaHexLib
import Derived.Test.YtdjaoicahelacaaNumRead
namespace Go.Proofs.Ytdjaoicahelacaa
open Go.RowKit

def HexPost (l : List UInt8) (w : World) (e : Ending) (w' : World) : Prop :=
  ∃ A c, e = .returned (.tuple #[.slice A (hexR l).length c, .bool (okHex l)]) ∧ w'.ownsRow w.heap.size 5 1 (.slice A (hexR l).length c) (hexR l).length (cellsOf (hexR l)) ∧ Below w.heap.size w w'

theorem hexPost_no {l : List UInt8} {w w' : World} (h : okHex l = false) (hb : Below w.heap.size w w') : HexPost l w (.returned (.tuple #[.slice none 0 0, .bool false])) w' := by
  refine ⟨none, 0, ?_, ?_, hb⟩
  · rw [hexR, h]; rfl
  · rw [hexR, h]; exact World.ownsRow_nil _ _ _ _
theorem hexPost_yes {l : List UInt8} {w w' : World} {A : Option Addr} {n c : Nat} (h : okHex l = true) (hn : n = l.length / 2) (ho : w'.ownsRow w.heap.size 5 1 (.slice A n c) n (cellsOf (hexBytes l))) (hb : Below w.heap.size w w') :
    HexPost l w (.returned (.tuple #[.slice A n c, .bool true])) w' := by
  have e : hexR l = hexBytes l := by rw [hexR, h]; rfl
  refine ⟨A, c, ?_, ?_, hb⟩
  · rw [e, hexBytes_length, h, hn]
  · rw [e, hexBytes_length, ← hn]; exact ho

set_option maxHeartbeats 400000 in
theorem implDigit (b : UInt8) (w : World) (h : hexV b < 16) :
    Calls Try.prog 41 #[.int .i32 (b.toNat : Int)] w fun e w' => e = .returned (.tuple #[.int .u8 (hexV b : Int), .bool true]) ∧ w = w' := by
  by_cases h1 : 48 ≤ b.toNat ∧ b.toNat ≤ 57
  · have hv : hexV b = b.toNat - 48 := by rw [hexV, if_pos h1]
    rw [hv]
    obtain ⟨h2, h3⟩ := h1
    clear hv h
    go_enter Try.func41, Try.ntmps41
    go_wp2_with (go_at_call 49; refine (withinR_yes _ _ _ _ (by omega) (by omega)).mono ?_; rintro e w' ⟨rfl, rfl⟩)
    go_ret2
    refine ⟨?_, rfl⟩
    rw [show ((b.toNat - 48 : Nat) : Int) = (b.toNat : Int) - 48 by omega]
    rfl
  · by_cases h4 : 97 ≤ b.toNat ∧ b.toNat ≤ 102
    · have hv : hexV b = b.toNat - 87 := by rw [hexV, if_neg h1, if_pos h4]
      rw [hv]
      obtain ⟨h2, h3⟩ := h4
      have hno := Lib.hid (show (b.toNat : Int) < 48 ∨ (57 : Int) < b.toNat by omega)
      clear hv h h1
      go_enter Try.func41, Try.ntmps41
      go_wp2_with fail
      refine (withinR_no _ _ _ _ hno.out).mono ?_
      rintro e w' ⟨rfl, rfl⟩
      go_wp2_with fail
      refine (withinR_yes _ _ _ _ (by omega) (by omega)).mono ?_
      rintro e w' ⟨rfl, rfl⟩
      go_wp2
      go_ret2
      refine ⟨?_, rfl⟩
      rw [show ((b.toNat - 87 : Nat) : Int) = (b.toNat : Int) - 97 + 10 by omega]
      rfl
    · rw [hexV, if_neg h1, if_neg h4] at h
      omega

set_option maxHeartbeats 400000 in
theorem implDigit_no (r : Int) (w : World) (h1 : r < 48 ∨ 57 < r) (h2 : r < 97 ∨ 102 < r) :
    Calls Try.prog 41 #[.int .i32 r] w fun e w' => e = .returned (.tuple #[.int .u8 0, .bool false]) ∧ w = w' := by
  have H1 := Lib.hid h1
  have H2 := Lib.hid h2
  clear h1 h2
  go_enter Try.func41, Try.ntmps41
  go_wp2_with fail
  refine (withinR_no _ _ _ _ H1.out).mono ?_
  rintro e w' ⟨rfl, rfl⟩
  go_wp2_with fail
  refine (withinR_no _ _ _ _ H2.out).mono ?_
  rintro e w' ⟨rfl, rfl⟩
  go_wp2
  go_ret2
  exact ⟨rfl, rfl⟩

set_option maxHeartbeats 400000 in
theorem implHexRead_odd (s : ByteArray) (w : World) (hs : s.size ≤ 1048576) (h : ¬ s.size % 2 = 0) : Calls Try.prog 17 #[.string s] w (HexPost s.data.toList w) := by
  have hok := Lib.hid (okHex_len s.data.toList (show ¬ (s.size % 2 = 0 ∧ s.size ≤ 8000) by omega))
  have h1 : ((s.size : Int) % 2 == 0) = false := by simp; omega
  have h2 : ((s.size : Int) % 2 != 0) = true := by simp; omega
  clear h
  go_enter Try.func17, Try.ntmps17
  go_wp2
  go_ret2
  exact hexPost_no hok.out (Below.refl _ _)

set_option maxHeartbeats 400000 in
theorem implHexRead_long (s : ByteArray) (w : World) (hs : s.size ≤ 1048576) (h0 : s.size % 2 = 0) (h : 8000 < s.size) : Calls Try.prog 17 #[.string s] w (HexPost s.data.toList w) := by
  have hok := Lib.hid (okHex_len s.data.toList (show ¬ (s.size % 2 = 0 ∧ s.size ≤ 8000) by omega))
  have h2 : ((s.size : Int) % 2 != 0) = false := by simp; omega
  clear h0
  go_enter Try.func17, Try.ntmps17
  go_wp2
  go_ret2
  exact hexPost_no hok.out (Below.refl _ _)

theorem or_nib (x d : Nat) (hx : x < 16) (hd : d < 16) : bits .or .u8 ((x : Int) * 16) (d : Int) = (x : Int) * 16 + d := by
  have e : ((x : Int) * 16) = ((16 * x : Nat) : Int) := by omega
  have ho : 16 * x ||| d = 16 * x + d := (Nat.two_pow_add_eq_or_of_lt (i := 4) (by simpa using hd) x).symm
  have t : ∀ n : Nat, n < 256 → (BitVec.ofInt 8 (n : Int)).toNat = n := fun n hn => by
    rw [BitVec.ofInt_natCast, BitVec.toNat_ofNat]
    exact Nat.mod_eq_of_lt (by omega)
  rw [e]
  show IntKind.u8.wrap ((BitVec.ofInt 8 ((16 * x : Nat) : Int) ||| BitVec.ofInt 8 (d : Int)).toNat : Int) = _
  rw [BitVec.toNat_or, t _ (by omega), t d (by omega), ho, IntKind.wrap_u8]
  omega

theorem grown_iterAt (w : World) (k : Nat) (s : ByteArray) (pos : Nat) : w.grownBy (w.iterAt k s pos) (some k) :=
  ⟨rfl, rfl, rfl, by rw [Lib.iterAt_size]; exact Nat.le_refl _, fun i _ hne => Lib.iterAt_other w k i s pos (fun e => hne (by rw [e]))⟩

theorem cell_byte (n : Nat) (h : n < 256) : ((UInt8.ofNat n).toNat : Int) = n := by
  simp
  omega

theorem hexAtS (s : ByteArray) (i : Nat) (h : i < s.size) : hexAt s.data.toList i = hexV (s[i]'h) := hexAt_get s.data.toList i h
theorem okHex_badS (s : ByteArray) (i : Nat) (h : i < s.size) (hb : ¬ hexV (s[i]'h) < 16) : okHex s.data.toList = false := okHex_bad s.data.toList i h hb

theorem hexRow_stored (l : List UInt8) (i x d : Nat) (hx : hexSt l i (i / 2) = x) (hd : hexAt l i = d) (h1 : x < 16) (h2 : d < 16) :
    (cellsOf (hexRow l i)).set (i / 2) (.int .u8 ((x : Int) * 16 + d)) = cellsOf (hexRow l (i + 1)) := by
  rw [← hexRow_step, hx, hd]
  have e : (((UInt8.ofNat (16 * x + d)).toNat : Nat) : Int) = (x : Int) * 16 + d := by rw [cell_byte _ (by omega)]; omega
  rw [← e]
  simp [cellsOf, List.map_set]

set_option maxHeartbeats 1000000 in
theorem implHexRead_go (s : ByteArray) (w : World) (h0 : s.size % 2 = 0) (h : s.size ≤ 8000) : Calls Try.prog 17 #[.string s] w (HexPost s.data.toList w) := by
  obtain ⟨i0, hi0, hz0, hz1, hz2⟩ := info_parts info_u8
  have h2 : ((s.size : Int) % 2 != 0) = false := by simp; omega
  have H0 := Lib.hid h0
  clear h0
  go_enter Try.func17, Try.ntmps17
  go_wp2_with (at_make; refine wpList_make_full _ rfl _ _ 22 rfl w.heap.size 5 i0 (.int .u8 0) 1 Try.underlying22 hi0 hz0 hz1 _ _ _ _ (s.size / 2) rfl rfl (by omega) (by omega) (by rw [hz2]; omega) (by unfold maxLen; omega) (Nat.le_refl _) ?_; intro w1 hown hgrow)
  have hown0 : w1.ownsRow w.heap.size 5 1 (.slice (some ⟨w.heap.size, 0, none⟩) (s.size / 2) (s.size / 2)) (s.size / 2) (cellsOf (hexRow s.data.toList 0)) := by
    have e : (madeCells (Value.int IntKind.u8 0).cells (s.size / 2 * 1)).toList = cellsOf (hexRow s.data.toList 0) := by
      rw [hexRow_zero]
      have := toList_madeCells_one (.int .u8 0) (s.size / 2)
      simpa [Value.cells, cellsOf] using this
    rw [← e]; exact hown
  have hb1 : Below w.heap.size w w1 := (Below.refl _ _).grown hgrow (Nat.le_refl _) (by simp)
  have hsz : w.heap.size < w1.heap.size := (hown0.lt w.heap.size rfl).2
  clear hown hgrow
  go_loopw [] (fun wr => ∃ i : Nat, i ≤ s.size ∧ (∀ j, j < i → hexAt s.data.toList j < 16) ∧ wr.heap[w1.heap.size]? = some (.stringIter s i) ∧
      wr.ownsRow w.heap.size 5 1 (.slice (some ⟨w.heap.size, 0, none⟩) (s.size / 2) (s.size / 2)) (s.size / 2) (cellsOf (hexRow s.data.toList i)) ∧ Below w.heap.size w wr) (fun wr => s.size - wr.iterPos w1.heap.size)
  case atStart => exact ⟨0, Nat.zero_le _, fun j hj => absurd hj (Nat.not_lt_zero _), World.iter_heap _ _ _, hown0.alloc _, hb1.alloc hb1.size _⟩
  case round =>
    obtain ⟨i, hi, hall, hit, ho, hb⟩ := hrel
    clear hown0 hb1
    by_cases hlt : i < s.size
    · by_cases hv : hexV (s[i]'hlt) < 16
      · have hd := hexAtS s i hlt
        have hi2 : i / 2 < s.size / 2 := by have := H0.out; omega
        obtain ⟨x, hx⟩ : ∃ x, hexSt s.data.toList i (i / 2) = x := ⟨_, rfl⟩
        have hx16 : x < 16 := by rw [← hx]; exact hexSt_lt _ _ hall
        have hlt256 : (s[i]'hlt).toNat < 128 := by
          unfold hexV at hv
          split at hv
          · omega
          · split at hv
            · omega
            · omega
        have hnx : ∀ ty, (Instr.next (.pointer (some ⟨w1.heap.size, 0, none⟩)) true ty).run Try.prog wr = _ := fun ty => Lib.run_next_ascii_at wr w1.heap.size s i ty hit hlt hlt256
        have hit2 := Lib.iterAt_heap wr w1.heap.size s i (i + 1) hit
        have ho2 := own_grown ho (grown_iterAt wr w1.heap.size s (i + 1)) (fun k hk => by simp [Value.ownBlock] at hk; simp; omega)
        have hb2 := Lib.below_iterAt hb (k := w1.heap.size) (Nat.le_of_lt hsz) s (i + 1)
        have hcell : (wr.iterAt w1.heap.size s (i + 1)).cell? ⟨w.heap.size, i / 2, none⟩ = some (.int .u8 (x : Int)) := by
          rw [ho2.cellAt (i / 2) (by omega), cellsOf_get _ _ _ (hexRow_get s.data.toList i (i / 2) (show i / 2 < s.size / 2 by have := H0.out; omega)), hx, cell_byte x (by omega)]
        have hfz := ho2.frozenAt (i / 2)
        have hor := or_nib x (hexV (s[i]'hlt)) hx16 hv
        have R := ho2.stored (i / 2) (.int .u8 ((x : Int) * 16 + (hexV (s[i]'hlt) : Int)))
        rw [hexRow_stored s.data.toList i x (hexV (s[i]'hlt)) hx hd hx16 hv] at R
        have R1 := Lib.hid R.1
        have R2 := Lib.hid (hb2.setCell (p := ⟨w.heap.size, i / 2, none⟩) (Nat.le_refl _) (.int .u8 ((x : Int) * 16 + (hexV (s[i]'hlt) : Int))))
        have R3 := Lib.hid ((Below.heap_setCell (wr.iterAt w1.heap.size s (i + 1)) ⟨w.heap.size, i / 2, none⟩ (.int .u8 ((x : Int) * 16 + (hexV (s[i]'hlt) : Int))) w1.heap.size (by simp; omega)).trans hit2)
        have hall2 := Lib.hid (show ∀ j, j < i + 1 → hexAt s.data.toList j < 16 from fun j hj => by
          rcases Nat.lt_succ_iff_lt_or_eq.1 hj with h | h
          · exact hall j h
          · rw [h, hd]; exact hv)
        have hit' := Lib.hid hit
        clear R ho ho2 hb hb2 hit hit2 hall hd hx
        go_wp2_with (go_at_call 41; refine (implDigit _ _ hv).mono ?_; rintro e w' ⟨rfl, rfl⟩)
        go_roundw
        case rel => exact ⟨i + 1, by omega, hall2.out, R3.out, R1.out, R2.out⟩
        case measure => simp only [World.iterPos, R3.out, hit'.out]; omega
      · have hok := Lib.hid (okHex_badS s i hlt hv)
        have hno : ∃ r : Nat, (Utf8.decode s i).1 = r ∧ ((r < 48 ∨ 57 < r) ∧ (r < 97 ∨ 102 < r)) ∧ r ≤ 2147483647 := by
          refine ⟨_, rfl, ?_, decode_le s i⟩
          by_cases ha : (s[i]'hlt).toNat < 128
          · rw [decode_ascii s i hlt ha]
            unfold hexV at hv
            split at hv
            · omega
            · split at hv <;> omega
          · have := (decode_high s i hlt (by omega)).1
            omega
        obtain ⟨r, hr, hr2, hr3⟩ := hno
        have hnx : ∀ ty, (Instr.next (.pointer (some ⟨w1.heap.size, 0, none⟩)) true ty).run Try.prog wr = .ok (.tuple #[.bool true, .int .i64 i, .int .i32 r]) (wr.iterAt w1.heap.size s (i + (Utf8.decode s i).2)) := fun ty => by
          rw [← hr]
          exact Lib.run_next_any_at wr w1.heap.size s i ty hit hlt
        have hb2 := Lib.hid (Lib.below_iterAt hb (k := w1.heap.size) (Nat.le_of_lt hsz) s (i + (Utf8.decode s i).2))
        have hr4 := Lib.hid (show ((r : Int) < 48 ∨ (57 : Int) < r) ∧ ((r : Int) < 97 ∨ (102 : Int) < r) by omega)
        clear hr hr2 hit hv hall ho hb
        go_wp2_with (go_at_call 41; refine (implDigit_no _ _ hr4.out.1 hr4.out.2).mono ?_; rintro e w' ⟨rfl, rfl⟩)
        go_ret2
        exact hexPost_no hok.out hb2.out
    · obtain rfl : i = s.size := by omega
      have hnx : ∀ ty, (Instr.next (.pointer (some ⟨w1.heap.size, 0, none⟩)) true ty).run Try.prog wr = _ := fun ty => Lib.run_next_end_at wr w1.heap.size s s.size ty hit hlt
      have hok := Lib.hid (okHex_yes s.data.toList H0.out h (fun i hi => by
        have := hall i hi
        rwa [hexAt_get _ i hi] at this))
      have e : hexRow s.data.toList s.size = hexBytes s.data.toList := hexRow_end s.data.toList H0.out
      rw [e] at ho
      have ho := Lib.hid ho
      clear hall e hit
      go_wp2
      go_ret2
      exact hexPost_yes hok.out rfl ho.out hb

theorem implHexRead (s : ByteArray) (w : World) (hs : s.size ≤ 1048576) : Calls Try.prog 17 #[.string s] w (HexPost s.data.toList w) := by
  by_cases h0 : s.size % 2 = 0
  · by_cases h : s.size ≤ 8000
    · exact implHexRead_go s w h0 h
    · exact implHexRead_long s w hs h0 (by omega)
  · exact implHexRead_odd s w hs h0
end Go.Proofs.Ytdjaoicahelacaa
