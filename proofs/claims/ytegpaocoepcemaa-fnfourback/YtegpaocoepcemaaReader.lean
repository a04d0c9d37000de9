/-
  The program's reader over bytes: the next number, what is left, a copy of the next bytes.
-/
import Derived.Test.YtegpaocoepcemaaEthLib
import Derived.Test.YtegpaocoepcemaaCells
import Derived.Deep.QuietTactic
import Derived.BigQuiet
import Derived.StillTailTactics
import Derived.Lib.SliceRun
namespace Go.Proofs.Ytegpaocoepcemaa
open Go.RowKit

theorem be_append (a b : List UInt8) : be (a ++ b) = be a * 256 ^ b.length + be b := by
  have : ∀ (b : List UInt8) (z : Nat), b.foldl (fun n x => 256 * n + x.toNat) z = z * 256 ^ b.length + b.foldl (fun n x => 256 * n + x.toNat) 0 := by
    intro b
    induction b with
    | nil => intro z; simp
    | cons x t ih =>
      intro z
      simp only [List.foldl_cons, List.length_cons, Nat.mul_zero, Nat.zero_add]
      rw [ih (256 * z + x.toNat), ih x.toNat, Nat.pow_succ, Nat.add_mul]
      have : 256 * z * 256 ^ t.length = z * (256 ^ t.length * 256) := by rw [Nat.mul_comm (256 ^ t.length) 256, ← Nat.mul_assoc, Nat.mul_comm z 256]
      omega
  unfold be
  rw [List.foldl_append, this]
theorem be_lt5 (l : List UInt8) (j : Nat) (h : j ≤ 5) : be (l.take j) < 1099511627776 := by
  have h1 := be_lt (l.take j)
  have h2 : 256 ^ (l.take j).length ≤ 256 ^ 5 := Nat.pow_le_pow_right (by omega) (Nat.le_trans (List.length_take_le _ _) h)
  omega
theorem or_byteW (m b : Nat) (hm : m < 1099511627776) (hb : b < 256) : bits .or .i64 ((m : Int) * 256) (b : Int) = (m : Int) * 256 + b := by
  have e : ((m : Int) * 256) = ((256 * m : Nat) : Int) := by omega
  have ho : 256 * m ||| b = 256 * m + b := (Nat.two_pow_add_eq_or_of_lt (i := 8) (by simpa using hb) m).symm
  rw [e]
  show IntKind.i64.wrap ((BitVec.ofInt 64 ((256 * m : Nat) : Int) ||| BitVec.ofInt 64 (b : Int)).toNat : Int) = _
  rw [BitVec.toNat_or, ofInt_i64 _ (by omega), ofInt_i64 b (by omega), ho, IntKind.wrap_i64]
  omega

set_option maxRecDepth 100000 in
set_option maxHeartbeats 400000 in
theorem implBigW (A : Option Addr) (n c : Nat) (bs : List UInt8) (k : Nat) (s : Nat) (w : World) (hr : RB w w.heap.size A bs) (hl : bs.length = n) (hn : n ≤ 1048576) (hc : n ≤ c) (hs0 : 0 < s) (hs : s ≤ 6) (h : k + s ≤ n) :
    Calls Try.prog 105 #[.slice A n c, .int .i64 (k : Int), .int .i64 s] w fun e w' => e = .returned (.tuple #[.int .i64 (be ((bs.drop k).take s)), .bool true]) ∧ w = w' := by
  subst hl
  obtain ⟨g, o, rfl, hg, hcell⟩ := hr (by omega)
  have hne : ¬ c = k := by omega
  go_enter Try.func105, Try.ntmps105
  go_wp2_with (go_at_call 41; refine (within_yes _ _ _ _ (by omega) (by omega)).mono ?_; rintro e w' ⟨rfl, rfl⟩)
  go_loop [8, 25] (fun n i => ∃ j : Nat, j ≤ s ∧ i = .int .i64 j ∧ n = .int .i64 (be ((bs.drop k).take j))) (fun _ i => s - (intOf i).toNat)
  case atStart => exact ⟨0, Nat.zero_le _, rfl, rfl⟩
  case round =>
    obtain ⟨j, hj, rfl, rfl⟩ := hrel
    by_cases hlt : j < s
    · have hc0 : w.cell? ⟨g, o + k + j, none⟩ = some (.int .u8 (bs[k + j].toNat : Int)) := by
        rw [Nat.add_assoc]
        exact hcell (k + j) _ (List.getElem?_eq_getElem (by omega))
      have hb : (bs[k + j].toNat) < 256 := UInt8.toNat_lt _
      have hm := be_lt5 (bs.drop k) j (by omega)
      have hor := or_byteW (be ((bs.drop k).take j)) bs[k + j].toNat (by omega) hb
      have hst := Lib.hid (show be ((bs.drop k).take (j + 1)) = 256 * be ((bs.drop k).take j) + bs[k + j].toNat by
        rw [take_snoc _ j (by simp; omega), be_snoc]
        simp)
      clear hcell
      go_wp2
      go_round
      case rel => exact ⟨j + 1, by omega, by go_num, by rw [hst.out]; go_num⟩
      case measure => simp [intOf]; omega
    · obtain rfl : j = s := by omega
      go_wp2
      go_ret2
      exact ⟨rfl, rfl⟩

/-- The reader lies in block g: its bytes (they read as bs and lie below g) and its place k. -/
structure Rd (w : World) (g : Nat) (A : Option Addr) (n c : Nat) (bs : List UInt8) (k : Nat) : Prop where
  blk : w.heap[g]? = some (.cells #[.slice A n c, .int .i64 (k : Int)] 86 (0, 0))
  rb : RB w g A bs
  len : bs.length = n
  small : n ≤ 1048576
  cap : n ≤ c
section
variable {w w' : World} {g : Nat} {A : Option Addr} {n c : Nat} {bs : List UInt8} {k : Nat}
theorem Rd.lt (h : Rd w g A n c bs k) : g < w.heap.size := K.lt h.blk
theorem Rd.setAt (h : Rd w g A n c bs k) (m j : Nat) : Rd ((w.drewN m).setCell ⟨g, 1, none⟩ (.int .i64 (j : Int))) g A n c bs j ∧ w.grownBy ((w.drewN m).setCell ⟨g, 1, none⟩ (.int .i64 (j : Int))) (some g) := by
  have hg := step_grown w g 1 m (.int .i64 (j : Int))
  exact ⟨⟨K.set (w := w.drewN m) h.blk 1 _, h.rb.grownBy hg (Nat.le_refl _), h.len, h.small, h.cap⟩, hg⟩
theorem Rd.setAt0 (h : Rd w g A n c bs k) (j : Nat) : Rd (w.setCell ⟨g, 1, none⟩ (.int .i64 (j : Int))) g A n c bs j ∧ w.grownBy (w.setCell ⟨g, 1, none⟩ (.int .i64 (j : Int))) (some g) := h.setAt 0 j
theorem Rd.below (h : Rd w g A n c bs k) (hb : Below w.heap.size w w') : Rd w' g A n c bs k := ⟨K.below hb h.blk, h.rb.below (hb.mono (Nat.le_of_lt h.lt)), h.len, h.small, h.cap⟩
theorem Rd.drewN (h : Rd w g A n c bs k) (m : Nat) : Rd (w.drewN m) g A n c bs k := ⟨h.blk, h.rb, h.len, h.small, h.cap⟩
end

set_option maxRecDepth 100000 in
set_option maxHeartbeats 400000 in
theorem leftC (w : World) (g : Nat) (A : Option Addr) (n c : Nat) (bs : List UInt8) (k l : Nat) (h : Rd w g A n c bs k) (hk : k + l = n) :
    Calls Try.prog 79 #[.pointer (some ⟨g, 0, none⟩)] w fun e w' => e = .returned (.int .i64 (l : Int)) ∧ Below w.heap.size w w' := by
  obtain ⟨⟨c0, c1⟩, f0, f1⟩ := K.row2 h.blk
  have hn := h.small
  have e : IntKind.i64.wrap ((n : Int) - (k : Int)) = (l : Int) := by rw [IntKind.wrap_i64]; omega
  clear h hk
  go_enter Try.func79, Try.ntmps79
  go_wp2
  go_quiet (fail)
  go_wp2
  go_ret
  exact ⟨rfl, below_drewN (Below.refl _ _) _⟩

set_option maxRecDepth 100000 in
set_option maxHeartbeats 1000000 in
theorem numberC (w : World) (g : Nat) (A : Option Addr) (n c : Nat) (bs : List UInt8) (k s : Nat) (h : Rd w g A n c bs k) (hs0 : 0 < s) (hs : s ≤ 6) (hk : k + s ≤ n) :
    Calls Try.prog 91 #[.pointer (some ⟨g, 0, none⟩), .int .i64 (s : Int)] w fun e w' => e = .returned (.int .i64 (be ((bs.drop k).take s))) ∧ Rd w' g A n c bs (k + s) ∧ w.grownBy w' (some g) := by
  obtain ⟨⟨c0, c1⟩, f0, f1⟩ := K.row2 h.blk
  have hn := h.small
  have H := Lib.hid h
  have HB := Lib.hid (fun m => implBigW A n c bs k s (w.drewN m) ((h.drewN m).rb.more (Nat.le_of_lt h.lt)) h.len h.small h.cap hs0 hs hk)
  obtain ⟨j, hj⟩ : ∃ j : Nat, k + s = j := ⟨_, rfl⟩
  have e : (k : Int) + (s : Int) = (j : Int) := by omega
  have hjn : j ≤ n := by omega
  have HJ := Lib.hid hj
  clear h hj
  go_enter Try.func91, Try.ntmps91
  go_wp2
  go_quiet ((go_at_call 105; exact (HB.out _).mono fun _ _ ⟨he, hw⟩ => ⟨he, _, hw.symm⟩))
  go_wp2
  go_ret
  rw [HJ.out]
  exact ⟨rfl, (H.out.setAt _ j).1, (H.out.setAt _ j).2⟩

set_option maxRecDepth 100000 in
set_option maxHeartbeats 400000 in
theorem cloneC (a : Addr) (n c : Nat) (bs : List UInt8) (B : Nat) (w : World) (hr : RB w B (some a) bs) (hB : B ≤ w.heap.size) (hl : bs.length = n) (hn : n ≤ 1048576) :
    Calls Try.prog 69 #[.slice (some a) n c] w fun e w' => ∃ D d, e = .returned (.slice D n d) ∧ w'.ownsRow w.heap.size 5 1 (.slice D n d) n (cellsOf bs) ∧ Below w.heap.size w w' := by
  subst hl
  have o0 : (w.alloc (.cells #[] 5)).ownsRow w.heap.size 5 1 (.slice (some ⟨w.heap.size, 0, none⟩) 0 0) ([] : List UInt8).length (cellsOf []) := World.ownsRow_lit w #[] 0 (Nat.le_refl _) (Nat.zero_le _) rfl
  have hb0 : Below w.heap.size w (w.alloc (.cells #[] 5)) := (Below.refl _ _).alloc (Nat.le_refl _) _
  have r0 := (hr.more hB).below hb0
  have hnil : ∀ v : World, (binOp .eql 28 (.slice (some a) bs.length c) (.slice none 0 0)).run Try.prog v = .ok (.bool false) v := fun v => Lib.run_eql_slice_nil v _ _ _ _ _ _ _ Try.underlying28
  clear hr
  go_enter Try.func69, Try.ntmps69
  go_wp2_with (at_builtin; refine wpList_append_b rfl (.tmp 5) (.tmp 6) rfl w.heap.size (.slice (some ⟨w.heap.size, 0, none⟩) 0 0) [] rfl o0 _ (some a) bs.length c bs rfl rfl r0 (by simp; omega) (by simp) ?_; intro v3 w3 o3 g3 _)
  go_ret
  obtain ⟨A, c, rfl⟩ := own_form o3
  exact ⟨A, c, rfl, o3, hb0.grown g3 (by simp) (by simp [Value.ownBlock])⟩

theorem cut_mid (A : Option Addr) (n c k s j : Nat) (hj : k + s = j) (h : j ≤ c) (w : World) : (Instr.sliceAt 28 (.slice A n c) (some (.int .i64 (k : Int))) (some (.int .i64 (j : Int))) none).run Try.prog w = .ok (.slice (if c = k then A else A.map (·.add (k * 1))) s (c - k)) w := by
  obtain ⟨i0, hi0, hz0, hz1, hz2⟩ := info_parts info_u8
  rw [run_sliceAt_slice w _ _ _ _ _ (by kernel_rfl), run_slice_lh w _ _ _ _ (by kernel_rfl) .i64 .i64 (k : Int) (j : Int) (by omega) (by omega) (by omega)]
  have e : Try.prog.elem 28 = 5 := by kernel_rfl
  simp [e, sizeOf, typeInfo, hi0, sliced, hz1]
  omega

theorem below_grown {w w' : World} (h : Below w.heap.size w w') (row : Option Nat) : w.grownBy w' row := ⟨h.os, h.tape, h.output, h.size, fun k hk _ => h.block k hk⟩

set_option maxRecDepth 100000 in
set_option maxHeartbeats 1000000 in
theorem takeC (w : World) (g : Nat) (a : Addr) (n c : Nat) (bs : List UInt8) (k s : Nat) (h : Rd w g (some a) n c bs k) (hk : k + s ≤ n) :
    Calls Try.prog 78 #[.pointer (some ⟨g, 0, none⟩), .int .i64 (s : Int)] w fun e w' => ∃ D d, e = .returned (.slice D s d) ∧ w'.ownsRow w.heap.size 5 1 (.slice D s d) s (cellsOf ((bs.drop k).take s)) ∧ w.grownBy w' (some g) := by
  obtain ⟨⟨c0, c1⟩, f0, f1⟩ := K.row2 h.blk
  have hn := h.small
  have hl := h.len
  have hcap := h.cap
  have H := Lib.hid h
  obtain ⟨j, hj⟩ : ∃ j : Nat, k + s = j := ⟨_, rfl⟩
  have e : (k : Int) + (s : Int) = (j : Int) := by omega
  have e2 : IntKind.i64.wrap (j : Int) = (j : Int) := by rw [IntKind.wrap_i64]; omega
  have hsl := cut_mid (some a) n c k s j hj (by omega)
  obtain ⟨b, hb⟩ : ∃ b : Addr, (if c = k then (some a : Option Addr) else (some a).map (·.add (k * 1))) = some b := by
    split
    · exact ⟨a, rfl⟩
    · exact ⟨_, rfl⟩
  have r0 : RB w g (some b) ((bs.drop k).take s) := by
    rw [← hb]
    exact (h.rb.back k c (by omega)).front s
  rw [hb] at hsl
  have R0 := Lib.hid r0
  have HL := Lib.hid (show ((bs.drop k).take s).length = s by simp; omega)
  have hgw := h.lt
  clear h hb r0 hl
  go_enter Try.func78, Try.ntmps78
  go_wp2
  go_still_tail 15, (by kernel_rfl)
  change wpList _ _ _ _ _ w.drew
  have HW : Hid (Rd w.drew g (some a) n c bs k) := Lib.hid (H.out.drewN 1)
  have RW : Hid (RB w.drew g (some b) ((bs.drop k).take s)) := Lib.hid R0.out
  have hgw2 : g < w.drew.heap.size := hgw
  have G0 : Hid (w.grownBy w.drew (some g)) := Lib.hid ⟨rfl, rfl, rfl, Nat.le_refl _, fun _ _ _ => rfl⟩
  have hsz : w.drew.heap.size = w.heap.size := rfl
  clear c0 c1 f0 f1 hsl
  generalize w.drew = w2 at *
  go_wp2_with fail
  refine (cloneC b s _ _ g w2 RW.out (Nat.le_of_lt hgw2) HL.out (by omega)).mono ?_
  rintro e w3 ⟨D, d, rfl, o3, b3⟩
  have H3 := Lib.hid (HW.out.below b3)
  have G3 := Lib.hid (grownBy_trans G0.out (below_grown b3 (some g)))
  have O3 := Lib.hid (own_base o3 (Nat.le_of_eq hsz.symm))
  clear o3 b3
  obtain ⟨⟨c0, c1⟩, f0, f1⟩ := K.row2 H3.out.blk
  go_wp2
  go_ret
  exact ⟨D, d, rfl, own_grown O3.out (grownBy_set w3 g 1 _) (fun q hq => by have := (O3.out.lt q hq).1; simp; omega), grownBy_trans G3.out (grownBy_set w3 g 1 _)⟩
end Go.Proofs.Ytegpaocoepcemaa
