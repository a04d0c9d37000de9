/-
  What bytes are read as: a head, a body, a code. Plain: nothing here speaks of the program. AddrOf in the program. The program's reader of packets: it holds the reader of frames as its first field. The packet reader splits two bytes behind the first four bits. What the program reads behind the length of an IPv4 head. What bytes are read as: an IPv4 head, options, a body, the rest, a code. Plain: nothing here speaks of the program. FourOk in the model. FourOk in the program. FourOk in the program. FourOk in the program. FourOk in the program. FourOk in the program, at every packet.
-/
import Derived.Test.YthogonpjkngpjaaRa05
import Derived.Test.YthogonpjkngpjaaRa03
import Derived.Test.YthogonpjkngpjaaRa02
import Derived.Deep.Cut
import Derived.Test.YthogonpjkngpjaaRa01
import Derived.Test.YthogonpjkngpjaaRa04
import Derived.Lib.QuietBelow
import Derived.Deep.QuietTactic
import Derived.BigQuiet
namespace Go.Proofs.Ythogonpjkngpjaa
set_option maxRecDepth 100000
open Go.RowKit

/-- The number in the s bytes from place k on. -/
def num (bs : List UInt8) (k s : Nat) : Nat := be ((bs.drop k).take s)
theorem num_lt2 (bs : List UInt8) (k : Nat) : num bs k 2 < 65536 := by
  have h1 := be_lt ((bs.drop k).take 2)
  have h2 : 256 ^ ((bs.drop k).take 2).length ≤ 256 ^ 2 := Nat.pow_le_pow_right (by omega) (List.length_take_le _ _)
  unfold num
  omega
end Go.Proofs.Ythogonpjkngpjaa

namespace Go.Proofs.Ythogonpjkngpjaa
set_option maxRecDepth 100000
open Go.RowKit

end Go.Proofs.Ythogonpjkngpjaa

namespace Go.Proofs.Ythogonpjkngpjaa
set_option maxRecDepth 100000
open Go.RowKit

/-- The reader lies in block g: its bytes (they read as bs and lie below g) and its place k. -/
structure Rp (w : World) (g : Nat) (A : Option Addr) (n c : Nat) (bs : List UInt8) (k : Nat) : Prop where
  blk : w.heap[g]? = some (.cells #[.slice A n c, .int .i64 (k : Int)] 79 (0, 0))
  rb : RB w g A bs
  len : bs.length = n
  small : n ≤ 1048576
  cap : n ≤ c
section
variable {w w' : World} {g : Nat} {A : Option Addr} {n c : Nat} {bs : List UInt8} {k : Nat}
theorem Rp.lt (h : Rp w g A n c bs k) : g < w.heap.size := K.lt h.blk
theorem Rp.setAt (h : Rp w g A n c bs k) (m j : Nat) : Rp ((w.drewN m).setCell ⟨g, 1, none⟩ (.int .i64 (j : Int))) g A n c bs j ∧ w.grownBy ((w.drewN m).setCell ⟨g, 1, none⟩ (.int .i64 (j : Int))) (some g) := by
  have hg := step_grown w g 1 m (.int .i64 (j : Int))
  exact ⟨⟨K.set (w := w.drewN m) h.blk 1 _, h.rb.grownBy hg (Nat.le_refl _), h.len, h.small, h.cap⟩, hg⟩
theorem Rp.setAt0 (h : Rp w g A n c bs k) (j : Nat) : Rp (w.setCell ⟨g, 1, none⟩ (.int .i64 (j : Int))) g A n c bs j ∧ w.grownBy (w.setCell ⟨g, 1, none⟩ (.int .i64 (j : Int))) (some g) := h.setAt 0 j
theorem Rp.below (h : Rp w g A n c bs k) (hb : Below w.heap.size w w') : Rp w' g A n c bs k := ⟨K.below hb h.blk, h.rb.below (hb.mono (Nat.le_of_lt h.lt)), h.len, h.small, h.cap⟩
theorem Rp.away {row : Option Nat} (h : Rp w g A n c bs k) (hg : w.grownBy w' row) (hne : ∀ q, row = some q → g < q) : Rp w' g A n c bs k := by
  refine ⟨K.kept hg h.blk (fun q hq => by have := hne q hq; omega), ?_, h.len, h.small, h.cap⟩
  rcases row with _ | q
  · exact h.rb.below ⟨hg.os, hg.tape, hg.output, hg.size, fun b hb => hg.block b (by have := h.lt; omega) (by simp)⟩
  · exact h.rb.grownBy hg (Nat.le_of_lt (hne q rfl))
theorem Rp.drewN (h : Rp w g A n c bs k) (m : Nat) : Rp (w.drewN m) g A n c bs k := ⟨h.blk, h.rb, h.len, h.small, h.cap⟩
end

set_option maxHeartbeats 400000 in
theorem leftP (w : World) (g : Nat) (A : Option Addr) (n c : Nat) (bs : List UInt8) (k l : Nat) (h : Rp w g A n c bs k) (hk : k + l = n) :
    Calls Try.prog 92 #[.pointer (some ⟨g, 0, none⟩)] w fun e w' => e = .returned (.int .i64 (l : Int)) ∧ Below w.heap.size w w' := by
  obtain ⟨⟨c0, c1⟩, f0, f1⟩ := K.row2 h.blk
  have hn := h.small
  have e : IntKind.i64.wrap ((n : Int) - (k : Int)) = (l : Int) := by rw [IntKind.wrap_i64]; omega
  clear h hk
  go_enter Try.func92, Try.ntmps92
  go_wp2
  go_quiet (fail)
  go_wp2
  go_ret
  exact ⟨rfl, below_drewN (Below.refl _ _) _⟩

set_option maxHeartbeats 1000000 in
theorem numberP (w : World) (g : Nat) (A : Option Addr) (n c : Nat) (bs : List UInt8) (k s v : Nat) (hv : num bs k s = v) (h : Rp w g A n c bs k) (hs0 : 0 < s) (hs : s ≤ 6) (hk : k + s ≤ n) :
    Calls Try.prog 117 #[.pointer (some ⟨g, 0, none⟩), .int .i64 (s : Int)] w fun e w' => e = .returned (.int .i64 (v : Int)) ∧ Rp w' g A n c bs (k + s) ∧ w.grownBy w' (some g) := by
  obtain ⟨⟨c0, c1⟩, f0, f1⟩ := K.row2 h.blk
  have hn := h.small
  have H := Lib.hid h
  have HB := Lib.hid (fun m => implBigW A n c bs k s (w.drewN m) ((h.drewN m).rb.more (Nat.le_of_lt h.lt)) h.len h.small h.cap hs0 hs hk)
  obtain ⟨j, hj⟩ : ∃ j : Nat, k + s = j := ⟨_, rfl⟩
  have e : (k : Int) + (s : Int) = (j : Int) := by omega
  have hjn : j ≤ n := by omega
  have HJ := Lib.hid hj
  have HV := Lib.hid (show be ((bs.drop k).take s) = v from hv)
  clear h hj hv
  go_enter Try.func117, Try.ntmps117
  go_wp2
  go_quiet ((go_at_call 123; exact (HB.out _).mono fun _ _ ⟨he, hw⟩ => ⟨he, _, hw.symm⟩))
  go_wp2
  go_ret
  rw [HJ.out]
  exact ⟨by rw [HV.out]; rfl, (H.out.setAt _ j).1, (H.out.setAt _ j).2⟩

set_option maxHeartbeats 1000000 in
theorem takeP (w : World) (g : Nat) (a : Addr) (n c : Nat) (bs : List UInt8) (k s : Nat) (h : Rp w g (some a) n c bs k) (hk : k + s ≤ n) :
    Calls Try.prog 91 #[.pointer (some ⟨g, 0, none⟩), .int .i64 (s : Int)] w fun e w' => ∃ D d, e = .returned (.slice D s d) ∧ w'.ownsRow w.heap.size 5 1 (.slice D s d) s (cellsOf ((bs.drop k).take s)) ∧ Rp w' g (some a) n c bs (k + s) ∧ w.grownBy w' (some g) := by
  obtain ⟨⟨c0, c1⟩, f0, f1⟩ := K.row2 h.blk
  have hn := h.small
  have hl := h.len
  have hcap := h.cap
  have H := Lib.hid h
  obtain ⟨j, hj⟩ : ∃ j : Nat, k + s = j := ⟨_, rfl⟩
  have e : (k : Int) + (s : Int) = (j : Int) := by omega
  have e2 : IntKind.i64.wrap (j : Int) = (j : Int) := by rw [IntKind.wrap_i64]; omega
  have hsl := cut_mid (some a) n c k s j hj (by omega)
  obtain ⟨b, hb⟩ : ∃ b : Addr, (if c = k then (some a : Option Addr) else (some a).map (·.add (k * 1))) = some b := by
    split
    · exact ⟨a, rfl⟩
    · exact ⟨_, rfl⟩
  have r0 : RB w g (some b) ((bs.drop k).take s) := by
    rw [← hb]
    exact (h.rb.back k c (by omega)).front s
  rw [hb] at hsl
  have R0 := Lib.hid r0
  have HL := Lib.hid (show ((bs.drop k).take s).length = s by simp; omega)
  have hgw := h.lt
  have HJ := Lib.hid hj
  clear h hb r0 hl hj
  go_enter Try.func91, Try.ntmps91
  go_wp2
  go_still_tail 15, (by kernel_rfl)
  change wpList _ _ _ _ _ w.drew
  have HW : Hid (Rp w.drew g (some a) n c bs k) := Lib.hid (H.out.drewN 1)
  have RW : Hid (RB w.drew g (some b) ((bs.drop k).take s)) := Lib.hid R0.out
  have hgw2 : g < w.drew.heap.size := hgw
  have G0 : Hid (w.grownBy w.drew (some g)) := Lib.hid ⟨rfl, rfl, rfl, Nat.le_refl _, fun _ _ _ => rfl⟩
  have hsz : w.drew.heap.size = w.heap.size := rfl
  clear c0 c1 f0 f1 hsl
  generalize w.drew = w2 at *
  go_wp2_with fail
  refine (cloneC b s _ _ g w2 RW.out (Nat.le_of_lt hgw2) HL.out (by omega)).mono ?_
  rintro e w3 ⟨D, d, rfl, o3, b3⟩
  have H3 := Lib.hid (HW.out.below b3)
  have G3 := Lib.hid (grownBy_trans G0.out (below_grown b3 (some g)))
  have O3 := Lib.hid (own_base o3 (Nat.le_of_eq hsz.symm))
  clear o3 b3
  obtain ⟨⟨c0, c1⟩, f0, f1⟩ := K.row2 H3.out.blk
  go_wp2
  go_ret
  exact ⟨D, d, rfl, own_grown O3.out (grownBy_set w3 g 1 _) (fun q hq => by have := (O3.out.lt q hq).1; simp; omega), by rw [HJ.out]; exact (H3.out.setAt0 j).1, grownBy_trans G3.out (grownBy_set w3 g 1 _)⟩

theorem and_low (v m i : Nat) (hm : 2 ^ i = m) (hi : i ≤ 16) (hv : v < 4611686018427387904) : bits .and .i64 (v : Int) ((m : Int) - 1) = ((v % m : Nat) : Int) := by
  have h1 : 2 ^ i ≤ 2 ^ 16 := Nat.pow_le_pow_right (by omega) hi
  have h0 : 0 < m := by rw [← hm]; exact Nat.two_pow_pos i
  have e : (m : Int) - 1 = ((m - 1 : Nat) : Int) := by omega
  have ha : v &&& (m - 1) = v % m := by rw [← hm]; exact Nat.and_two_pow_sub_one_eq_mod v i
  have hl : v % m ≤ v := Nat.mod_le v m
  rw [e]
  show IntKind.i64.wrap ((BitVec.ofInt 64 (v : Int) &&& BitVec.ofInt 64 ((m - 1 : Nat) : Int)).toNat : Int) = _
  rw [BitVec.toNat_and, ofInt_i64 _ (by omega), ofInt_i64 _ (by omega), ha, IntKind.wrap_i64]
  omega

end Go.Proofs.Ythogonpjkngpjaa

namespace Go.Proofs.Ythogonpjkngpjaa
set_option maxRecDepth 100000
open Go.RowKit

set_option maxHeartbeats 1000000 in
theorem splitP_12 (w : World) (g : Nat) (A : Option Addr) (n c : Nat) (bs : List UInt8) (k s v : Nat) (hv : num bs k s = v) (hv2 : v < 65536) (h : Rp w g A n c bs k) (hs0 : 0 < s) (hs : s ≤ 6) (hk : k + s ≤ n) :
    Calls Try.prog 116 #[.pointer (some ⟨g, 0, none⟩), .int .i64 (s : Int), .int .i64 12] w fun e w' => e = .returned (.tuple #[.int .i64 ((v : Int) / 4096), .int .i64 ((v : Int) % 4096)]) ∧ Rp w' g A n c bs (k + s) ∧ w.grownBy w' (some g) := by
  have HC := Lib.hid (numberP w g A n c bs k s v hv h hs0 hs hk)
  have ea : bits .and .i64 (v : Int) 4095 = (v : Int) % 4096 := by
    have := and_low v 4096 12 rfl (by omega) (by omega)
    rw [show (4095 : Int) = ((4096 : Nat) : Int) - 1 by omega, this]
    omega
  clear h hv
  go_enter Try.func116, Try.ntmps116
  go_wp2_with fail
  refine HC.out.mono ?_
  rintro e w1 ⟨rfl, r1, g1⟩
  have R1 := Lib.hid r1
  have G1 := Lib.hid g1
  clear r1 g1
  go_wp2
  go_quiet (fail)
  go_wp2
  go_ret2
  exact ⟨rfl, R1.out.drewN _, G1.out.os, G1.out.tape, G1.out.output, G1.out.size, G1.out.block⟩
end Go.Proofs.Ythogonpjkngpjaa

namespace Go.Proofs.Ythogonpjkngpjaa
set_option maxRecDepth 100000
open Go.RowKit

end Go.Proofs.Ythogonpjkngpjaa

namespace Go.Proofs.Ythogonpjkngpjaa
set_option maxRecDepth 100000
open Go.RowKit

theorem num_lt1 (bs : List UInt8) (k : Nat) : num bs k 1 < 256 := by
  have h1 := be_lt ((bs.drop k).take 1)
  have h2 : 256 ^ ((bs.drop k).take 1).length ≤ 256 ^ 1 := Nat.pow_le_pow_right (by omega) (List.length_take_le _ _)
  unfold num
  omega

end Go.Proofs.Ythogonpjkngpjaa

namespace Go.Proofs.Ythogonpjkngpjaa
set_option maxRecDepth 100000
open Go.RowKit

end Go.Proofs.Ythogonpjkngpjaa

namespace Go.Proofs.Ythogonpjkngpjaa
set_option maxRecDepth 100000
open Go.RowKit









end Go.Proofs.Ythogonpjkngpjaa

namespace Go.Proofs.Ythogonpjkngpjaa
set_option maxRecDepth 100000
open Go.RowKit





end Go.Proofs.Ythogonpjkngpjaa

namespace Go.Proofs.Ythogonpjkngpjaa
set_option maxRecDepth 100000
open Go.RowKit



end Go.Proofs.Ythogonpjkngpjaa

namespace Go.Proofs.Ythogonpjkngpjaa
set_option maxRecDepth 100000
open Go.RowKit

end Go.Proofs.Ythogonpjkngpjaa

namespace Go.Proofs.Ythogonpjkngpjaa
set_option maxRecDepth 100000
open Go.RowKit

end Go.Proofs.Ythogonpjkngpjaa
