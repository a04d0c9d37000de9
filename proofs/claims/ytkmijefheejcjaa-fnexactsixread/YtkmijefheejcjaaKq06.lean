/-
  Stores into the first cells of a block, one after the other, whatever their number. Plain: any program. The program's reader of packets: it holds the reader of frames as its first field. The sums of chapter 2 as plain functions. Nothing here speaks of the program. IPv4 packets as seven integers, two addresses, options and a body. Plain: nothing here speaks of the program. A slice that reads as a list of cells, whatever they are; 'append' onto a row of the call's own, from whatever source; rows of integers. A slice of bytes that came in: what the walk is told of it, out of its reading. IPv6 packets as four integers, two addresses, extension headers and a body; rows of extension headers in memory. Plain: nothing here speaks of the program's functions. What bytes are read as, as an IPv6 packet. Plain: nothing here speaks of the program. Blocks of nineteen cells as one fact each. Plain: any program.
-/
import Derived.Test.YtkmijefheejcjaaKq03
import Derived.Test.YtkmijefheejcjaaKq05
import Derived.Test.YtkmijefheejcjaaKq04
import Derived.Test.YtkmijefheejcjaaKq01
import Derived.ProofKit
import Derived.OpenShut
import Derived.Laws.MakeOwn
import Derived.Laws.OwnMore
namespace Go.Proofs.Ytkmijefheejcjaa.K
open Go.RowKit

/-- The cells from i on of block g are stored, one after the other. -/
def setFrom (w : World) (g : Nat) : Nat → List Value → World
  | _, [] => w
  | i, v :: vs => setFrom (w.setCell ⟨g, i, none⟩ v) g (i + 1) vs

theorem set_drop (cs : Array Value) (i : Nat) (v : Value) (vs : List Value) (h : i + (v :: vs).length = cs.size) : (cs.toList.take i ++ v :: vs).toArray = ((cs.setIfInBounds i v).toList.take (i + 1) ++ vs).toArray := by
  have hi : i < cs.toList.length := by simp at h ⊢; omega
  rw [Array.toList_setIfInBounds]
  congr 1
  rw [List.take_succ_eq_append_getElem (by rw [List.length_set]; exact hi), List.take_set_of_le (Nat.le_refl _), List.getElem_set_self, List.append_assoc]
  rfl

section
variable {w W : World} {g : Nat}
theorem setFrom_row {t : TypeId} : ∀ (vs : List Value) (w : World) (i : Nat) (cs : Array Value), w.heap[g]? = some (.cells cs t (0, 0)) → i + vs.length = cs.size → (setFrom w g i vs).heap[g]? = some (.cells (cs.toList.take i ++ vs).toArray t (0, 0))
  | [], w, i, cs, h, hl => by
    have e : cs.toList.take i = cs.toList := List.take_of_length_le (by simp at hl ⊢; omega)
    rw [e, List.append_nil]
    exact h
  | v :: vs, w, i, cs, h, hl => by
    rw [setFrom, setFrom_row vs _ (i + 1) _ (set h i v) (by simp at hl ⊢; omega), set_drop cs i v vs hl]
/-- All cells of a block are stored. -/
theorem setAll {t : TypeId} {cs : Array Value} (vs : List Value) (h : w.heap[g]? = some (.cells cs t (0, 0))) (hl : vs.length = cs.size) : (setFrom w g 0 vs).heap[g]? = some (.cells vs.toArray t (0, 0)) := by
  have := setFrom_row vs w 0 cs h (by omega)
  simpa using this
theorem setFrom_keeps (p : World → Prop) (hp : ∀ v i u, p v → p (v.setCell ⟨g, i, none⟩ u)) : ∀ (vs : List Value) (w : World) (i : Nat), p w → p (setFrom w g i vs)
  | [], _, _, h => h
  | v :: vs, w, i, h => setFrom_keeps p hp vs _ (i + 1) (hp w i v h)
theorem setFrom_other {b : Nat} {o : Obj} (vs : List Value) (i : Nat) (h : w.heap[b]? = some o) (hne : b ≠ g) : (setFrom w g i vs).heap[b]? = some o :=
  setFrom_keeps (fun v => v.heap[b]? = some o) (fun _ i u h => other h g i u hne) vs w i h
theorem setFrom_own {base : Nat} {e : TypeId} {size n : Nat} {v : Value} {xs : List Value} (vs : List Value) (i : Nat) (h : w.ownsRow base e size v n xs) (hg : g < base) : (setFrom w g i vs).ownsRow base e size v n xs :=
  setFrom_keeps (fun u => u.ownsRow base e size v n xs) (fun u i x h => own_grown h (grownBy_set u g i x) (fun k hk => by have := (h.lt k hk).1; simp; omega)) vs w i h
theorem setFrom_below {B : Nat} (vs : List Value) (i : Nat) (h : Below B W w) (hg : B ≤ g) : Below B W (setFrom w g i vs) :=
  setFrom_keeps (fun u => Below B W u) (fun _ i x h => h.setCell (p := ⟨g, i, none⟩) hg x) vs w i h
theorem setFrom_cur {c : Nat} {A : Option Addr} {d : Nat} {bs : List UInt8} {t s : Nat} (vs : List Value) (i : Nat) (h : CurS w c A d bs t s) (hg : c < g) : CurS (setFrom w g i vs) c A d bs t s :=
  setFrom_keeps (fun u => CurS u c A d bs t s) (fun u i x h => h.grownBy (grownBy_set u g i x) (fun k hk => by cases hk; exact hg)) vs w i h
theorem setFrom_grown {row : Option Nat} (vs : List Value) (i : Nat) (h : W.grownBy w row) (hg : W.heap.size ≤ g) : W.grownBy (setFrom w g i vs) row :=
  setFrom_keeps (fun u => W.grownBy u row) (fun u i x h => grown_other h (grownBy_set u g i x) (fun k hk => by cases hk; exact hg)) vs w i h
end

/-- The nested stores of a walk are such stores: a trial. -/
theorem setFrom_three (w : World) (g : Nat) (a b c : Value) : ((w.setCell ⟨g, 0, none⟩ a).setCell ⟨g, 1, none⟩ b).setCell ⟨g, 2, none⟩ c = setFrom w g 0 [a, b, c] := rfl
theorem setFrom_nineteen {w : World} {base g n : Nat} {e : TypeId} {u : Value} {xs : List Value} (v0 v1 v2 v3 v4 v5 v6 v7 v8 v9 v10 v11 v12 v13 v14 v15 v16 v17 v18 : Value) (h : w.ownsRow base e 1 u n xs) (hg : g < base) : (((((((((((((((((((w.setCell ⟨g, 0, none⟩ v0).setCell ⟨g, 1, none⟩ v1).setCell ⟨g, 2, none⟩ v2).setCell ⟨g, 3, none⟩ v3).setCell ⟨g, 4, none⟩ v4).setCell ⟨g, 5, none⟩ v5).setCell ⟨g, 6, none⟩ v6).setCell ⟨g, 7, none⟩ v7).setCell ⟨g, 8, none⟩ v8).setCell ⟨g, 9, none⟩ v9).setCell ⟨g, 10, none⟩ v10).setCell ⟨g, 11, none⟩ v11).setCell ⟨g, 12, none⟩ v12).setCell ⟨g, 13, none⟩ v13).setCell ⟨g, 14, none⟩ v14).setCell ⟨g, 15, none⟩ v15).setCell ⟨g, 16, none⟩ v16).setCell ⟨g, 17, none⟩ v17).setCell ⟨g, 18, none⟩ v18).ownsRow base e 1 u n xs := setFrom_own [v0, v1, v2, v3, v4, v5, v6, v7, v8, v9, v10, v11, v12, v13, v14, v15, v16, v17, v18] 0 h hg
end Go.Proofs.Ytkmijefheejcjaa.K

namespace Go.Proofs.Ytkmijefheejcjaa
set_option maxRecDepth 100000
open Go.RowKit

/-- The reader lies in block g: its bytes (they read as bs and lie below g) and its place k. -/
structure Rp (w : World) (g : Nat) (A : Option Addr) (n c : Nat) (bs : List UInt8) (k : Nat) : Prop where
  blk : w.heap[g]? = some (.cells #[.slice A n c, .int .i64 (k : Int)] 86 (0, 0))
  rb : RB w g A bs
  len : bs.length = n
  small : n ≤ 1048576
  cap : n ≤ c
section
variable {w w' : World} {g : Nat} {A : Option Addr} {n c : Nat} {bs : List UInt8} {k : Nat}
theorem Rp.lt (h : Rp w g A n c bs k) : g < w.heap.size := K.lt h.blk
theorem Rp.setAt (h : Rp w g A n c bs k) (m j : Nat) : Rp ((w.drewN m).setCell ⟨g, 1, none⟩ (.int .i64 (j : Int))) g A n c bs j ∧ w.grownBy ((w.drewN m).setCell ⟨g, 1, none⟩ (.int .i64 (j : Int))) (some g) := by
  have hg := step_grown w g 1 m (.int .i64 (j : Int))
  exact ⟨⟨K.set (w := w.drewN m) h.blk 1 _, h.rb.grownBy hg (Nat.le_refl _), h.len, h.small, h.cap⟩, hg⟩
theorem Rp.setAt0 (h : Rp w g A n c bs k) (j : Nat) : Rp (w.setCell ⟨g, 1, none⟩ (.int .i64 (j : Int))) g A n c bs j ∧ w.grownBy (w.setCell ⟨g, 1, none⟩ (.int .i64 (j : Int))) (some g) := h.setAt 0 j
theorem Rp.below (h : Rp w g A n c bs k) (hb : Below w.heap.size w w') : Rp w' g A n c bs k := ⟨K.below hb h.blk, h.rb.below (hb.mono (Nat.le_of_lt h.lt)), h.len, h.small, h.cap⟩
theorem Rp.away {row : Option Nat} (h : Rp w g A n c bs k) (hg : w.grownBy w' row) (hne : ∀ q, row = some q → g < q) : Rp w' g A n c bs k := by
  refine ⟨K.kept hg h.blk (fun q hq => by have := hne q hq; omega), ?_, h.len, h.small, h.cap⟩
  rcases row with _ | q
  · exact h.rb.below ⟨hg.os, hg.tape, hg.output, hg.size, fun b hb => hg.block b (by have := h.lt; omega) (by simp)⟩
  · exact h.rb.grownBy hg (Nat.le_of_lt (hne q rfl))
theorem Rp.drewN (h : Rp w g A n c bs k) (m : Nat) : Rp (w.drewN m) g A n c bs k := ⟨h.blk, h.rb, h.len, h.small, h.cap⟩
end

set_option maxHeartbeats 400000 in
theorem leftP (w : World) (g : Nat) (A : Option Addr) (n c : Nat) (bs : List UInt8) (k l : Nat) (h : Rp w g A n c bs k) (hk : k + l = n) :
    Calls Try.prog 118 #[.pointer (some ⟨g, 0, none⟩)] w fun e w' => e = .returned (.int .i64 (l : Int)) ∧ Below w.heap.size w w' := by
  obtain ⟨⟨c0, c1⟩, f0, f1⟩ := K.row2 h.blk
  have hn := h.small
  have e : IntKind.i64.wrap ((n : Int) - (k : Int)) = (l : Int) := by rw [IntKind.wrap_i64]; omega
  clear h hk
  go_enter Try.func118, Try.ntmps118
  go_wp2
  go_quiet (fail)
  go_wp2
  go_ret
  exact ⟨rfl, below_drewN (Below.refl _ _) _⟩

set_option maxHeartbeats 1000000 in
theorem numberP (w : World) (g : Nat) (A : Option Addr) (n c : Nat) (bs : List UInt8) (k s v : Nat) (hv : num bs k s = v) (h : Rp w g A n c bs k) (hs0 : 0 < s) (hs : s ≤ 6) (hk : k + s ≤ n) :
    Calls Try.prog 114 #[.pointer (some ⟨g, 0, none⟩), .int .i64 (s : Int)] w fun e w' => e = .returned (.int .i64 (v : Int)) ∧ Rp w' g A n c bs (k + s) ∧ w.grownBy w' (some g) := by
  obtain ⟨⟨c0, c1⟩, f0, f1⟩ := K.row2 h.blk
  have hn := h.small
  have H := Lib.hid h
  have HB := Lib.hid (fun m => implBigW A n c bs k s (w.drewN m) ((h.drewN m).rb.more (Nat.le_of_lt h.lt)) h.len h.small h.cap hs0 hs hk)
  obtain ⟨j, hj⟩ : ∃ j : Nat, k + s = j := ⟨_, rfl⟩
  have e : (k : Int) + (s : Int) = (j : Int) := by omega
  have hjn : j ≤ n := by omega
  have HJ := Lib.hid hj
  have HV := Lib.hid (show be ((bs.drop k).take s) = v from hv)
  clear h hj hv
  go_enter Try.func114, Try.ntmps114
  go_wp2
  go_quiet ((go_at_call 134; exact (HB.out _).mono fun _ _ ⟨he, hw⟩ => ⟨he, _, hw.symm⟩))
  go_wp2
  go_ret
  rw [HJ.out]
  exact ⟨by rw [HV.out]; rfl, (H.out.setAt _ j).1, (H.out.setAt _ j).2⟩

set_option maxHeartbeats 1000000 in
theorem takeP (w : World) (g : Nat) (a : Addr) (n c : Nat) (bs : List UInt8) (k s : Nat) (h : Rp w g (some a) n c bs k) (hk : k + s ≤ n) :
    Calls Try.prog 117 #[.pointer (some ⟨g, 0, none⟩), .int .i64 (s : Int)] w fun e w' => ∃ D d, e = .returned (.slice D s d) ∧ w'.ownsRow w.heap.size 5 1 (.slice D s d) s (cellsOf ((bs.drop k).take s)) ∧ Rp w' g (some a) n c bs (k + s) ∧ w.grownBy w' (some g) := by
  obtain ⟨⟨c0, c1⟩, f0, f1⟩ := K.row2 h.blk
  have hn := h.small
  have hl := h.len
  have hcap := h.cap
  have H := Lib.hid h
  obtain ⟨j, hj⟩ : ∃ j : Nat, k + s = j := ⟨_, rfl⟩
  have e : (k : Int) + (s : Int) = (j : Int) := by omega
  have e2 : IntKind.i64.wrap (j : Int) = (j : Int) := by rw [IntKind.wrap_i64]; omega
  have hsl := cut_mid (some a) n c k s j hj (by omega)
  obtain ⟨b, hb⟩ : ∃ b : Addr, (if c = k then (some a : Option Addr) else (some a).map (·.add (k * 1))) = some b := by
    split
    · exact ⟨a, rfl⟩
    · exact ⟨_, rfl⟩
  have r0 : RB w g (some b) ((bs.drop k).take s) := by
    rw [← hb]
    exact (h.rb.back k c (by omega)).front s
  rw [hb] at hsl
  have R0 := Lib.hid r0
  have HL := Lib.hid (show ((bs.drop k).take s).length = s by simp; omega)
  have hgw := h.lt
  have HJ := Lib.hid hj
  clear h hb r0 hl hj
  go_enter Try.func117, Try.ntmps117
  go_wp2
  go_still_tail 15, (by kernel_rfl)
  change wpList _ _ _ _ _ w.drew
  have HW : Hid (Rp w.drew g (some a) n c bs k) := Lib.hid (H.out.drewN 1)
  have RW : Hid (RB w.drew g (some b) ((bs.drop k).take s)) := Lib.hid R0.out
  have hgw2 : g < w.drew.heap.size := hgw
  have G0 : Hid (w.grownBy w.drew (some g)) := Lib.hid ⟨rfl, rfl, rfl, Nat.le_refl _, fun _ _ _ => rfl⟩
  have hsz : w.drew.heap.size = w.heap.size := rfl
  clear c0 c1 f0 f1 hsl
  generalize w.drew = w2 at *
  go_wp2_with fail
  refine (cloneC b s _ _ g w2 RW.out (Nat.le_of_lt hgw2) HL.out (by omega)).mono ?_
  rintro e w3 ⟨D, d, rfl, o3, b3⟩
  have H3 := Lib.hid (HW.out.below b3)
  have G3 := Lib.hid (grownBy_trans G0.out (below_grown b3 (some g)))
  have O3 := Lib.hid (own_base o3 (Nat.le_of_eq hsz.symm))
  clear o3 b3
  obtain ⟨⟨c0, c1⟩, f0, f1⟩ := K.row2 H3.out.blk
  go_wp2
  go_ret
  exact ⟨D, d, rfl, own_grown O3.out (grownBy_set w3 g 1 _) (fun q hq => by have := (O3.out.lt q hq).1; simp; omega), by rw [HJ.out]; exact (H3.out.setAt0 j).1, grownBy_trans G3.out (grownBy_set w3 g 1 _)⟩

theorem K.setFrom_self : ∀ (vs : List Value) (w : World) (g i : Nat), w.grownBy (K.setFrom w g i vs) (some g)
  | [], w, _, _ => K.refl w _
  | v :: vs, w, g, i => grownBy_trans (grownBy_set w g i v) (K.setFrom_self vs (w.setCell ⟨g, i, none⟩ v) g (i + 1))

theorem and_low (v m i : Nat) (hm : 2 ^ i = m) (hi : i ≤ 16) (hv : v < 4611686018427387904) : bits .and .i64 (v : Int) ((m : Int) - 1) = ((v % m : Nat) : Int) := by
  have h1 : 2 ^ i ≤ 2 ^ 16 := Nat.pow_le_pow_right (by omega) hi
  have h0 : 0 < m := by rw [← hm]; exact Nat.two_pow_pos i
  have e : (m : Int) - 1 = ((m - 1 : Nat) : Int) := by omega
  have ha : v &&& (m - 1) = v % m := by rw [← hm]; exact Nat.and_two_pow_sub_one_eq_mod v i
  have hl : v % m ≤ v := Nat.mod_le v m
  rw [e]
  show IntKind.i64.wrap ((BitVec.ofInt 64 (v : Int) &&& BitVec.ofInt 64 ((m - 1 : Nat) : Int)).toNat : Int) = _
  rw [BitVec.toNat_and, ofInt_i64 _ (by omega), ofInt_i64 _ (by omega), ha, IntKind.wrap_i64]
  omega

set_option maxHeartbeats 1000000 in
theorem splitP_4 (w : World) (g : Nat) (A : Option Addr) (n c : Nat) (bs : List UInt8) (k s v : Nat) (hv : num bs k s = v) (hv2 : v < 65536) (h : Rp w g A n c bs k) (hs0 : 0 < s) (hs : s ≤ 6) (hk : k + s ≤ n) :
    Calls Try.prog 113 #[.pointer (some ⟨g, 0, none⟩), .int .i64 (s : Int), .int .i64 4] w fun e w' => e = .returned (.tuple #[.int .i64 ((v : Int) / 16), .int .i64 ((v : Int) % 16)]) ∧ Rp w' g A n c bs (k + s) ∧ w.grownBy w' (some g) := by
  have HC := Lib.hid (numberP w g A n c bs k s v hv h hs0 hs hk)
  have ea : bits .and .i64 (v : Int) 15 = (v : Int) % 16 := by
    have := and_low v 16 4 rfl (by omega) (by omega)
    rw [show (15 : Int) = ((16 : Nat) : Int) - 1 by omega, this]
    omega
  clear h hv
  go_enter Try.func113, Try.ntmps113
  go_wp2_with fail
  refine HC.out.mono ?_
  rintro e w1 ⟨rfl, r1, g1⟩
  have R1 := Lib.hid r1
  have G1 := Lib.hid g1
  clear r1 g1
  go_wp2
  go_quiet (fail)
  go_wp2
  go_ret2
  exact ⟨rfl, R1.out.drewN _, G1.out.os, G1.out.tape, G1.out.output, G1.out.size, G1.out.block⟩

set_option maxHeartbeats 1000000 in
theorem splitP_2 (w : World) (g : Nat) (A : Option Addr) (n c : Nat) (bs : List UInt8) (k s v : Nat) (hv : num bs k s = v) (hv2 : v < 65536) (h : Rp w g A n c bs k) (hs0 : 0 < s) (hs : s ≤ 6) (hk : k + s ≤ n) :
    Calls Try.prog 113 #[.pointer (some ⟨g, 0, none⟩), .int .i64 (s : Int), .int .i64 2] w fun e w' => e = .returned (.tuple #[.int .i64 ((v : Int) / 4), .int .i64 ((v : Int) % 4)]) ∧ Rp w' g A n c bs (k + s) ∧ w.grownBy w' (some g) := by
  have HC := Lib.hid (numberP w g A n c bs k s v hv h hs0 hs hk)
  have ea : bits .and .i64 (v : Int) 3 = (v : Int) % 4 := by
    have := and_low v 4 2 rfl (by omega) (by omega)
    rw [show (3 : Int) = ((4 : Nat) : Int) - 1 by omega, this]
    omega
  clear h hv
  go_enter Try.func113, Try.ntmps113
  go_wp2_with fail
  refine HC.out.mono ?_
  rintro e w1 ⟨rfl, r1, g1⟩
  have R1 := Lib.hid r1
  have G1 := Lib.hid g1
  clear r1 g1
  go_wp2
  go_quiet (fail)
  go_wp2
  go_ret2
  exact ⟨rfl, R1.out.drewN _, G1.out.os, G1.out.tape, G1.out.output, G1.out.size, G1.out.block⟩

set_option maxHeartbeats 1000000 in
theorem splitP_13 (w : World) (g : Nat) (A : Option Addr) (n c : Nat) (bs : List UInt8) (k s v : Nat) (hv : num bs k s = v) (hv2 : v < 65536) (h : Rp w g A n c bs k) (hs0 : 0 < s) (hs : s ≤ 6) (hk : k + s ≤ n) :
    Calls Try.prog 113 #[.pointer (some ⟨g, 0, none⟩), .int .i64 (s : Int), .int .i64 13] w fun e w' => e = .returned (.tuple #[.int .i64 ((v : Int) / 8192), .int .i64 ((v : Int) % 8192)]) ∧ Rp w' g A n c bs (k + s) ∧ w.grownBy w' (some g) := by
  have HC := Lib.hid (numberP w g A n c bs k s v hv h hs0 hs hk)
  have ea : bits .and .i64 (v : Int) 8191 = (v : Int) % 8192 := by
    have := and_low v 8192 13 rfl (by omega) (by omega)
    rw [show (8191 : Int) = ((8192 : Nat) : Int) - 1 by omega, this]
    omega
  clear h hv
  go_enter Try.func113, Try.ntmps113
  go_wp2_with fail
  refine HC.out.mono ?_
  rintro e w1 ⟨rfl, r1, g1⟩
  have R1 := Lib.hid r1
  have G1 := Lib.hid g1
  clear r1 g1
  go_wp2
  go_quiet (fail)
  go_wp2
  go_ret2
  exact ⟨rfl, R1.out.drewN _, G1.out.os, G1.out.tape, G1.out.output, G1.out.size, G1.out.block⟩

set_option maxHeartbeats 1000000 in
theorem addrP (w : World) (g : Nat) (a : Addr) (n c : Nat) (bs : List UInt8) (k v : Nat) (hv : num bs k 4 = v) (h : Rp w g (some a) n c bs k) (hk : k + 4 ≤ n) :
    Calls Try.prog 115 #[.pointer (some ⟨g, 0, none⟩), .int .i64 4] w fun e w' => e = .returned (.agg #[.int .i64 4, .int .i64 0, .int .i64 0, .int .i64 0, .int .i64 (v : Int)]) ∧ Rp w' g (some a) n c bs (k + 4) ∧ w.grownBy w' (some g) := by
  have hgl := h.lt
  have HL := Lib.hid (show ((bs.drop k).take 4).length = 4 by have := h.len; simp; omega)
  have HC := Lib.hid (fun o : Obj => takeP (w.alloc o) g a n c bs k 4 (h.below (Joins.below_alloc1 w o)) hk)
  have HV := Lib.hid (show ofA ((bs.drop k).take 4) = ⟨4, 0, 0, 0, (v : Int)⟩ by rw [ofA_four HL.out, ← hv]; rfl)
  have HO := Lib.hid (show okA ((bs.drop k).take 4) = true by simp [okA, HL.out])
  clear h hv
  go_enter Try.func115, Try.ntmps115
  go_wp2_with fail
  refine Calls.mono (HC.out _) ?_
  rintro e w1 ⟨D, d, rfl, o1, r1, g1⟩
  have q1 := Lib.hid (K.kept g1 (K.new w _) (fun k hk => by cases hk; omega))
  have R1 := Lib.hid r1
  have G1 := Lib.hid (grownBy_trans (only_new (K.refl w _) _) g1)
  have O1 := Lib.hid (RB.of_own o1)
  clear o1 r1 g1
  go_wp2_with fail
  refine Calls.mono (implAddrOf D 4 d ((bs.drop k).take 4) _ O1.out HL.out (by omega)) ?_
  rintro e w2 ⟨rfl, b2⟩
  rw [HV.out, HO.out]
  have q2 := Lib.hid (K.below b2 q1.out)
  have R2 := Lib.hid (R1.out.below b2)
  have G2 := Lib.hid (grownBy_trans G1.out (below_grown b2 (some g)))
  clear b2
  obtain ⟨⟨c0, c1, c2, c3, c4⟩, f0, f1, f2, f3, f4⟩ := K.row5 (K.old q2.out (.cells #[.int .i64 4, .int .i64 0, .int .i64 0, .int .i64 0, .int .i64 (v : Int)] 25))
  go_wp2
  (try simp only [Exit.inBlock, Exit.then])
  have GS := K.setFrom_self [.int .i64 4, .int .i64 0, .int .i64 0, .int .i64 0, .int .i64 (v : Int)] (w2.alloc (.cells #[.int .i64 4, .int .i64 0, .int .i64 0, .int .i64 0, .int .i64 (v : Int)] 25)) w.heap.size 0
  refine bodyPost_ret (v := .agg #[.int .i64 4, .int .i64 0, .int .i64 0, .int .i64 0, .int .i64 (v : Int)]) ?_ rfl ⟨rfl, ?_, ?_⟩
  · refine K.resCell Try.results115 _ _ _ w.heap.size _ ?_ (run_loadVar_row _ _ 25 25 _ (0, 0) _ (K.set5 _ _ _ _ _ (K.old q2.out _)) Try.underlying25 rfl info_addr)
    rfl
  · exact (R2.out.below (Joins.below_alloc1 w2 _)).away GS (fun q hq => by cases hq; exact hgl)
  · exact grown_other (only_new G2.out _) GS (fun u hu => by cases hu; exact Nat.le_refl _)
end Go.Proofs.Ytkmijefheejcjaa

namespace Go.Proofs.Ytkmijefheejcjaa
set_option maxRecDepth 100000

def isWord (n : Int) : Bool := decide (0 ≤ n ∧ n ≤ 65535)
theorem isWord_iff {n : Int} : isWord n = true ↔ 0 ≤ n ∧ n ≤ 65535 := by simp [isWord]
theorem isWord_not {n : Int} : isWord n = false ↔ n < 0 ∨ 65535 < n := by simp [isWord]; omega

/-- The sum of two words with the carry taken off. -/
def sadd (a b : Int) : Int := if 65535 < a + b then a + b - 65535 else a + b
theorem sadd_word {a b : Int} (ha : isWord a = true) (hb : isWord b = true) : isWord (sadd a b) = true := by
  rw [isWord_iff] at *
  unfold sadd
  split <;> omega
theorem sadd_zero {a : Int} (ha : isWord a = true) : sadd 0 a = a := by
  rw [isWord_iff] at ha
  unfold sadd
  split <;> omega

/-- The sum of a list of words from s on. -/
def sums (s : Int) (ws : List Int) : Int := ws.foldl sadd s
theorem sums_snoc (s : Int) (ws : List Int) (x : Int) : sums s (ws ++ [x]) = sadd (sums s ws) x := by simp [sums]
theorem sums_append (s : Int) (a b : List Int) : sums s (a ++ b) = sums (sums s a) b := by simp [sums]
theorem sums_word (ws : List Int) : ∀ s, isWord s = true → ws.all isWord = true → isWord (sums s ws) = true := by
  induction ws with
  | nil => intro s h _; exact h
  | cons x ws ih =>
    intro s h hw
    simp only [List.all_cons, Bool.and_eq_true] at hw
    exact ih _ (sadd_word h hw.1) hw.2

/-- What 'folded' answers. -/
def folded (ws : List Int) : Int := if ws.all isWord then sums 0 ws else -1
theorem folded_yes {ws : List Int} (h : ws.all isWord = true) : folded ws = sums 0 ws := by rw [folded, if_pos h]
theorem folded_no {ws : List Int} (k : Nat) (hk : k < ws.length) (h : isWord ws[k] = false) : folded ws = -1 := by
  have : ws.all isWord = false := by
    rw [Bool.eq_false_iff]
    intro ha
    have := List.all_eq_true.1 ha _ (List.getElem_mem hk)
    simp [h] at this
  rw [folded, this]
  rfl
theorem folded_range (ws : List Int) : -1 ≤ folded ws ∧ folded ws ≤ 65535 := by
  by_cases h : ws.all isWord = true
  · rw [folded_yes h]
    have := isWord_iff.1 (sums_word ws 0 (by decide) h)
    omega
  · rw [folded, if_neg h]
    omega
theorem all_take_snoc (ws : List Int) (k : Nat) (hk : k < ws.length) (h : (ws.take k).all isWord = true) (hx : isWord ws[k] = true) : (ws.take (k + 1)).all isWord = true := by
  rw [take_snoc ws k hk, List.all_append, h, List.all_cons, hx]
  rfl

/-- What 'complement' answers. -/
def comp (n : Int) : Int := if isWord n then 65535 - n else -1
theorem comp_yes {n : Int} (h : isWord n = true) : comp n = 65535 - n := by rw [comp, if_pos h]
theorem comp_no {n : Int} (h : isWord n = false) : comp n = -1 := by rw [comp, h]; rfl
theorem comp_word {n : Int} (h : isWord n = true) : isWord (comp n) = true := by
  rw [comp_yes h]
  rw [isWord_iff] at *
  omega
theorem comp_is (n : Int) : isWord (comp n) = isWord n := by
  cases h : isWord n with
  | true => exact comp_word h
  | false => rw [comp_no h]; rfl

/-- The words of a list of bytes. -/
def wordsL : List UInt8 → List Int
  | [] => []
  | [a] => [256 * (a.toNat : Int)]
  | a :: b :: t => (256 * (a.toNat : Int) + b.toNat) :: wordsL t
theorem wordsL_length : ∀ l : List UInt8, (wordsL l).length = (l.length + 1) / 2
  | [] => rfl
  | [_] => by simp [wordsL]
  | a :: b :: t => by
    have := wordsL_length t
    simp only [wordsL, List.length_cons, this]
    omega
theorem wordsL_append : ∀ (l m : List UInt8), l.length % 2 = 0 → wordsL (l ++ m) = wordsL l ++ wordsL m
  | [], _, _ => rfl
  | [_], _, h => by simp at h
  | a :: b :: t, m, h => by
    have := wordsL_append t m (by simp at h; omega)
    simp [wordsL, this]
theorem wordsL_word : ∀ l : List UInt8, (wordsL l).all isWord = true
  | [] => rfl
  | [a] => by
    have := UInt8.toNat_lt a
    simp [wordsL, isWord]
    omega
  | a :: b :: t => by
    have := wordsL_word t
    have := UInt8.toNat_lt a
    have := UInt8.toNat_lt b
    simp only [wordsL, List.all_cons, Bool.and_eq_true]
    exact ⟨isWord_iff.2 (by omega), by assumption⟩
theorem wordsL_even (bs : List UInt8) (k : Nat) (h : k < bs.length) (he : k % 2 = 0) : wordsL (bs.take (k + 1)) = wordsL (bs.take k) ++ [256 * (bs[k].toNat : Int)] := by
  rw [take_snoc bs k h, wordsL_append _ _ (by simp; omega)]
  rfl
theorem wordsL_odd (bs : List UInt8) (k : Nat) (h : k + 1 < bs.length) (he : k % 2 = 0) : wordsL (bs.take (k + 2)) = wordsL (bs.take k) ++ [256 * (bs[k].toNat : Int) + bs[k + 1].toNat] := by
  rw [take_snoc bs (k + 1) h, take_snoc bs k (by omega), List.append_assoc, wordsL_append _ _ (by simp; omega)]
  rfl

/-- What OnesSum answers. -/
def onesSum (bs : List UInt8) : Int := if 2000 < bs.length then -1 else sums 0 (wordsL bs)
theorem onesSum_range (bs : List UInt8) : -1 ≤ onesSum bs ∧ onesSum bs ≤ 65535 := by
  unfold onesSum
  split
  · omega
  · have := isWord_iff.1 (sums_word (wordsL bs) 0 (by decide) (wordsL_word bs))
    omega
theorem onesSum_word {bs : List UInt8} (h : bs.length ≤ 2000) : isWord (onesSum bs) = true := by
  rw [onesSum, if_neg (by omega)]
  exact sums_word (wordsL bs) 0 (by decide) (wordsL_word bs)
/-- What Checksum answers. -/
def checksum (bs : List UInt8) : Int := comp (onesSum bs)

/-- What SumSwap answers. -/
def swap (check was is : Int) : Int := comp (folded [comp check, comp was, is])
theorem swap_yes {check was is : Int} (h1 : isWord check = true) (h2 : isWord was = true) (h3 : isWord is = true) : swap check was is = 65535 - sadd (sadd (65535 - check) (65535 - was)) is := by
  have a1 := comp_word h1
  have a2 := comp_word h2
  have e : folded [comp check, comp was, is] = sadd (sadd (65535 - check) (65535 - was)) is := by
    rw [folded_yes (by simp [a1, a2, h3]), sums, List.foldl_cons, sadd_zero a1, comp_yes h1, comp_yes h2]
    rfl
  rw [swap, e, comp_yes]
  have b1 : isWord (65535 - check) = true := by rw [← comp_yes h1]; exact a1
  have b2 : isWord (65535 - was) = true := by rw [← comp_yes h2]; exact a2
  exact sadd_word (sadd_word b1 b2) h3
theorem swap_no {check was is : Int} (h : isWord check = false ∨ isWord was = false ∨ isWord is = false) : swap check was is = -1 := by
  have e : folded [comp check, comp was, is] = -1 := by
    rcases h with h | h | h
    · exact folded_no 0 (by simp) (by simpa [comp_is] using h)
    · exact folded_no 1 (by simp) (by simpa [comp_is] using h)
    · exact folded_no 2 (by simp) (by simpa using h)
  rw [swap, e]
  rfl
theorem swap_word {check was is : Int} (h1 : isWord check = true) (h2 : isWord was = true) (h3 : isWord is = true) : isWord (swap check was is) = true := by
  have a1 := comp_word h1
  have a2 := comp_word h2
  rw [swap]
  refine comp_word ?_
  rw [folded_yes (by simp [a1, a2, h3])]
  exact sums_word _ 0 (by decide) (by simp [a1, a2, h3])

/-- The words that SumSwaps folds. -/
def swapWords : List Int → List Int → List Int
  | a :: xa, b :: bs => comp a :: b :: swapWords xa bs
  | _, _ => []
theorem swapWords_snoc : ∀ (xa bs : List Int) (a b : Int), xa.length = bs.length → swapWords (xa ++ [a]) (bs ++ [b]) = swapWords xa bs ++ [comp a, b]
  | [], [], _, _, _ => rfl
  | [], _ :: _, _, _, h => by simp at h
  | _ :: _, [], _, _, h => by simp at h
  | x :: xa, y :: bs, a, b, h => by
    have := swapWords_snoc xa bs a b (by simpa using h)
    simp [swapWords, this]
theorem swapWords_length : ∀ (xa bs : List Int), xa.length = bs.length → (swapWords xa bs).length = 2 * xa.length
  | [], [], _ => rfl
  | [], _ :: _, h => by simp at h
  | _ :: _, [], h => by simp at h
  | x :: xa, y :: bs, h => by
    have := swapWords_length xa bs (by simpa using h)
    simp only [swapWords, List.length_cons, this]
    omega
theorem swapWords_all : ∀ (xa bs : List Int), xa.length = bs.length → ((swapWords xa bs).all isWord = true ↔ xa.all isWord = true ∧ bs.all isWord = true)
  | [], [], _ => by simp [swapWords]
  | [], _ :: _, h => by simp at h
  | _ :: _, [], h => by simp at h
  | x :: xa, y :: bs, h => by
    have := swapWords_all xa bs (by simpa using h)
    simp only [swapWords, List.all_cons, Bool.and_eq_true, comp_is, this]
    constructor
    · rintro ⟨a, b, c, d⟩; exact ⟨⟨a, c⟩, b, d⟩
    · rintro ⟨⟨a, c⟩, b, d⟩; exact ⟨a, b, c, d⟩

/-- What SumSwaps answers. -/
def swaps (check : Int) (was is : List Int) : Int := if was.length = is.length ∧ was.length ≤ 40 then comp (folded (comp check :: swapWords was is)) else -1

/-- The model's way: one exchange behind the other. -/
theorem swaps_step (check : Int) (was is : List Int) (a b : Int) (hl : was.length = is.length) (hl2 : was.length + 1 ≤ 40) (hc : isWord check = true) (hw : was.all isWord = true) (hi : is.all isWord = true) (ha : isWord a = true) (hb : isWord b = true) :
    isWord (swaps check was is) = true ∧ swap (swaps check was is) a b = swaps check (was ++ [a]) (is ++ [b]) := by
  have hall : (comp check :: swapWords was is).all isWord = true := by
    simp only [List.all_cons, Bool.and_eq_true, comp_is]
    exact ⟨hc, (swapWords_all was is hl).2 ⟨hw, hi⟩⟩
  have hs := sums_word _ 0 (by decide) hall
  have e1 : swaps check was is = comp (sums 0 (comp check :: swapWords was is)) := by rw [swaps, if_pos ⟨hl, by omega⟩, folded_yes hall]
  have w1 : isWord (swaps check was is) = true := by rw [e1]; exact comp_word hs
  refine ⟨w1, ?_⟩
  have e0 : swaps check (was ++ [a]) (is ++ [b]) = comp (folded (comp check :: (swapWords was is ++ [comp a, b]))) := by
    rw [swaps, if_pos ⟨by simp [hl], by rw [List.length_append]; exact hl2⟩, swapWords_snoc was is a b hl]
  rw [swap_yes w1 ha hb, e0]
  have hall2 : (comp check :: (swapWords was is ++ [comp a, b])).all isWord = true := by
    simp only [List.all_cons, List.all_append, List.all_nil, Bool.and_eq_true, comp_is]
    simp only [List.all_cons, Bool.and_eq_true, comp_is] at hall
    exact ⟨hall.1, hall.2, ha, hb, trivial⟩
  rw [folded_yes hall2, ← List.cons_append, sums_append, e1, comp_yes hs, comp_yes ha]
  have e2 : sums (sums 0 (comp check :: swapWords was is)) [65535 - a, b] = sadd (sadd (sums 0 (comp check :: swapWords was is)) (65535 - a)) b := rfl
  have ha2 := comp_word ha
  rw [comp_yes ha] at ha2
  rw [e2, comp_yes (sadd_word (sadd_word hs ha2) hb)]
  rw [show (65535 : Int) - (65535 - sums 0 (comp check :: swapWords was is)) = sums 0 (comp check :: swapWords was is) by omega]

theorem swaps_no {check : Int} {was is : List Int} (h : ¬ (was.length = is.length ∧ was.length ≤ 40)) : swaps check was is = -1 := by rw [swaps, if_neg h]
theorem swaps_bad {check : Int} {was is : List Int} (hl : was.length = is.length) (h : isWord check = false ∨ was.all isWord = false ∨ is.all isWord = false) : swaps check was is = -1 := by
  rw [swaps]
  split
  · have : (comp check :: swapWords was is).all isWord = false := by
      rw [Bool.eq_false_iff]
      intro ha
      simp only [List.all_cons, Bool.and_eq_true, comp_is] at ha
      have h2 := (swapWords_all was is hl).1 ha.2
      rcases h with h | h | h
      · simp [h] at ha
      · simp [h] at h2
      · simp [h] at h2
    rw [folded, this]
    rfl
  · rfl
theorem swaps_nil (check : Int) (h : isWord check = true) : swaps check [] [] = check := by
  have a1 := comp_word h
  have hr := isWord_iff.1 h
  have e : folded (comp check :: swapWords [] []) = 65535 - check := by
    rw [folded_yes (by simp [swapWords, a1]), sums, List.foldl_cons, sadd_zero a1, comp_yes h]
    rfl
  rw [swaps, if_pos (by simp), e, comp_yes (isWord_iff.2 (by omega))]
  omega
end Go.Proofs.Ytkmijefheejcjaa

namespace Go.Proofs.Ytkmijefheejcjaa
set_option maxRecDepth 100000
open Go.RowKit

/-- The head of a packet, but for its options. -/
structure Fh where
  dscp : Int
  ecn : Int
  id : Int
  flags : Int
  frag : Int
  ttl : Int
  proto : Int
  src : Ad
  dst : Ad
deriving DecidableEq

def Fh.zero : Fh := ⟨0, 0, 0, 0, 0, 0, 0, Ad.zero, Ad.zero⟩
def upTo (n hi : Int) : Bool := decide (0 ≤ n ∧ n ≤ hi)
theorem upTo_iff {n hi : Int} : upTo n hi = true ↔ 0 ≤ n ∧ n ≤ hi := by simp [upTo]
def adOk4 (x : Ad) : Bool := decide (x.k = 4) && x.ok
def optOk (o : Nat) : Bool := decide (o ≤ 40 ∧ o % 4 = 0)
/-- The seven integers are in their ranges. -/
def Fh.small (x : Fh) : Bool := upTo x.dscp 63 && upTo x.ecn 3 && upTo x.id 65535 && upTo x.flags 7 && upTo x.frag 8191 && upTo x.ttl 255 && upTo x.proto 255
/-- Is a packet with this head, o bytes of options and n bytes of a body valid? -/
def Fh.ok (x : Fh) (o n : Nat) : Bool := x.small && adOk4 x.src && adOk4 x.dst && optOk o && decide ((n : Int) ≤ 1480 - o)
theorem adOk4_iff {x : Ad} : adOk4 x = true ↔ x.k = 4 ∧ x.a = 0 ∧ x.b = 0 ∧ x.c = 0 ∧ 0 ≤ x.d ∧ x.d ≤ 4294967295 := by
  simp only [adOk4, Bool.and_eq_true, decide_eq_true_eq, Ad.ok_iff]
  omega
theorem Fh.small_iff (x : Fh) : x.small = true ↔ (0 ≤ x.dscp ∧ x.dscp ≤ 63) ∧ (0 ≤ x.ecn ∧ x.ecn ≤ 3) ∧ (0 ≤ x.id ∧ x.id ≤ 65535) ∧ (0 ≤ x.flags ∧ x.flags ≤ 7) ∧ (0 ≤ x.frag ∧ x.frag ≤ 8191) ∧ (0 ≤ x.ttl ∧ x.ttl ≤ 255) ∧ (0 ≤ x.proto ∧ x.proto ≤ 255) := by
  simp only [Fh.small, upTo, Bool.and_eq_true, decide_eq_true_eq, and_assoc]
theorem Fh.ok_iff (x : Fh) (o n : Nat) : x.ok o n = true ↔ ((0 ≤ x.dscp ∧ x.dscp ≤ 63) ∧ (0 ≤ x.ecn ∧ x.ecn ≤ 3) ∧ (0 ≤ x.id ∧ x.id ≤ 65535) ∧ (0 ≤ x.flags ∧ x.flags ≤ 7) ∧ (0 ≤ x.frag ∧ x.frag ≤ 8191) ∧ (0 ≤ x.ttl ∧ x.ttl ≤ 255) ∧ (0 ≤ x.proto ∧ x.proto ≤ 255)) ∧
    adOk4 x.src = true ∧ adOk4 x.dst = true ∧ (o ≤ 40 ∧ o % 4 = 0) ∧ (n : Int) ≤ 1480 - o := by
  simp only [Fh.ok, optOk, Bool.and_eq_true, decide_eq_true_eq, and_assoc, Fh.small_iff]
/-- The bytes of a head with a checksum, over options and the length of a body. -/
def Fh.head (x : Fh) (sum : Int) (os : List UInt8) (n : Nat) : List UInt8 :=
  [byteOf (69 + (os.length : Int) / 4), byteOf (4 * x.dscp + x.ecn)] ++ put16 (20 + os.length + n) ++ put16 x.id ++ put16 (8192 * x.flags + x.frag) ++ [byteOf x.ttl, byteOf x.proto] ++ put16 sum ++ put32 x.src.d ++ put32 x.dst.d ++ os
def Fh.sum (x : Fh) (os : List UInt8) (n : Nat) : Int := if x.ok os.length n then checksum (x.head 0 os n) else -1
def Fh.bytes (x : Fh) (os bs : List UInt8) : List UInt8 := if x.ok os.length bs.length then x.head (x.sum os bs.length) os bs.length ++ bs else []
theorem Fh.head_length (x : Fh) (sum : Int) (os : List UInt8) (n : Nat) : (x.head sum os n).length = 20 + os.length := by
  simp [Fh.head, put16, put32]; omega
theorem Fh.bytes_length (x : Fh) (os bs : List UInt8) : (x.bytes os bs).length ≤ 1500 := by
  unfold Fh.bytes
  split
  · rename_i h
    have h2 := ((x.ok_iff os.length bs.length).1 h).2.2.2
    rw [List.length_append, Fh.head_length]
    omega
  · simp
theorem adOk4_bytes {x : Ad} (h : adOk4 x = true) : x.bytes = put32 x.d := by
  have h2 := adOk4_iff.1 h
  have h3 : x.ok = true := by simp only [adOk4, Bool.and_eq_true] at h; exact h.2
  simp [Ad.bytes, h3, h2.1]
def Fh.piece (x : Fh) (o n : Nat) : Bool := x.ok o n && decide (x.frag ≠ 0 ∨ x.flags % 2 = 1)
end Go.Proofs.Ytkmijefheejcjaa

namespace Go.Proofs.Ytkmijefheejcjaa
set_option maxRecDepth 100000
open Go.RowKit

/-- The slice that begins at A reads as the cells vs, and lies below block number B. -/
def RV (w : World) (B : Nat) (A : Option Addr) (vs : List Value) : Prop :=
  0 < vs.length → ∃ g o, A = some ⟨g, o, none⟩ ∧ g < B ∧ ∀ j v, vs[j]? = some v → w.cell? ⟨g, o + j, none⟩ = some v

section
variable {w w' : World} {B B' : Nat} {A : Option Addr} {vs : List Value}

theorem RV.below (h : RV w B A vs) (hb : Below B w w') : RV w' B A vs := by
  intro hp
  obtain ⟨g, o, e, hg, hc⟩ := h hp
  exact ⟨g, o, e, hg, fun j u hu => (hb.cell (p := ⟨g, o + j, none⟩) hg).trans (hc j u hu)⟩

theorem RV.more (h : RV w B A vs) (hB : B ≤ B') : RV w B' A vs := by
  intro hp
  obtain ⟨g, o, e, hg, hc⟩ := h hp
  exact ⟨g, o, e, by omega, hc⟩

theorem RV.on (h : RV w w.heap.size A vs) (hb : Below w.heap.size w w') : RV w' w'.heap.size A vs := (h.below hb).more hb.size

theorem RV.nil_ (w : World) (B : Nat) (A : Option Addr) : RV w B A [] := fun h => absurd h (by simp)

theorem RV.of_own {base size : Nat} {e : TypeId} {n c : Nat} (h : w.ownsRow base e size (.slice A n c) n vs) : RV w w.heap.size A vs := by
  intro hp
  have hl := h.1
  rcases h.2 with ⟨h1, h2⟩ | ⟨g, cap, cur, hv, _, hg, _⟩
  · rw [h2, Nat.zero_mul] at hl
    omega
  · injection hv with hA hn hc
    subst hA
    subst hc
    refine ⟨g, 0, rfl, (Array.getElem?_eq_some_iff.1 hg).1, fun j u hu => ?_⟩
    have hj : j < vs.length := by
      rcases Nat.lt_or_ge j vs.length with h | h
      · exact h
      · rw [List.getElem?_eq_none h] at hu; cases hu
    rw [Nat.zero_add, h.cellAt j (by omega)]
    exact hu

theorem RV.at_ (h : RV w B A vs) {k : Nat} (hk : k < vs.length) : ∃ g o, A = some ⟨g, o, none⟩ ∧ g < B ∧ w.cell? ⟨g, o + k, none⟩ = some vs[k] := by
  obtain ⟨g, o, e, hg, hc⟩ := h (by omega)
  exact ⟨g, o, e, hg, hc k _ (List.getElem?_eq_getElem hk)⟩

/-- A new row reads as its cells. -/
theorem RV.new (w : World) (e : TypeId) (vs : List Value) : RV (w.alloc (.cells vs.toArray e)) (w.heap.size + 1) (some ⟨w.heap.size, 0, none⟩) vs := by
  intro hp
  refine ⟨w.heap.size, 0, rfl, by omega, fun j u hu => ?_⟩
  rw [cell_of_row _ w.heap.size (0 + j) _ e (0, 0) (heap_alloc_new w _)]
  simpa using hu
end

theorem run_append_v (w : World) (t ty e : TypeId) (i0 : TypeInfo) (z : Value) (size bytes : Nat) (ht : Try.prog.underlying t = some (.slice e)) (hi0 : Try.prog.info? e = some i0) (hz0 : i0.zero = some z) (hz1 : i0.size = size) (hz2 : i0.bytes = bytes) (hzs : z.cells.size = size) (hsz : 0 < size)
    (base : Nat) (v : Value) (n : Nat) (xs : List Value) (hown : w.ownsRow base e size v n xs) (B : Nat) (A : Option Addr) (m c : Nat) (ds : List Value) (hm : ds.length = m * size) (hr : RV w B A ds) (h1 : ∀ u ∈ ds, u.oneCell' = true)
    (h63 : n + m ≤ maxLen) (hby : (n + m) * bytes ≤ 140737488355328) (hbase : base ≤ w.heap.size) :
    ∃ v' w', (Builtin.append_ #[t, t] ty #[v, .slice A m c]).run Try.prog w = .ok v' w' ∧ w'.ownsRow base e size v' (n + m) (xs ++ ds) ∧ w.grownBy w' v.ownBlock ∧
      (v'.ownBlock = v.ownBlock ∨ v'.ownBlock = some w.heap.size) := by
  rcases A with _ | ad
  · have h0 : ds = [] := by
      rcases ds with _ | ⟨d, ds⟩
      · rfl
      · obtain ⟨g, o, h, _⟩ := hr (by simp)
        cases h
    subst h0
    have hm0 : m = 0 := by
      rcases Nat.mul_eq_zero.1 (show m * size = 0 from hm.symm) with h | h
      · exact h
      · omega
    subst hm0
    refine ⟨v, w, ?_, by simpa using hown, World.grownBy.refl _ _, .inl rfl⟩
    rcases hown.2 with ⟨rfl, h0⟩ | ⟨g, cap, cur, rfl, _, _, hnc, _⟩
    · simp [Builtin.append_, run_underlying ht, sizeOf, typeInfo, hi0, Builtin.lenOf, Builtin.firstCells]
    · simp [Builtin.append_, run_underlying ht, sizeOf, typeInfo, hi0, Builtin.lenOf, Builtin.firstCells, hnc, storeCells]
  · obtain ⟨v', w', g1, g2, g3, _, g5⟩ := run_append_own_at (P := Try.prog) w base t ty e i0 z size bytes ht hi0 hz0 hz1 hz2 hzs hsz v n xs hown ad m c ds hm (by
        intro j u hu
        have hj : j < ds.length := by
          rcases Nat.lt_or_ge j ds.length with h | h
          · exact h
          · rw [List.getElem?_eq_none h] at hu; cases hu
        obtain ⟨g, o, h, _, hc⟩ := hr (by omega)
        injection h with h
        subst h
        rw [addr_add]
        exact hc j u hu) h1 h63 hby hbase
    exact ⟨v', w', g1, g2, g3, g5⟩

/-- The cells of a list of integers. -/
def intsOf (xs : List Int) : List Value := xs.map fun n => .int .i64 n

theorem intsOf_length (xs : List Int) : (intsOf xs).length = xs.length := by simp [intsOf]
theorem intsOf_get (xs : List Int) (j : Nat) (u : Int) (h : xs[j]? = some u) : (intsOf xs)[j]? = some (.int .i64 u) := by simp [intsOf, h]
theorem intsOf_append (a b : List Int) : intsOf (a ++ b) = intsOf a ++ intsOf b := by simp [intsOf]
theorem intsOf_one (xs : List Int) : ∀ u ∈ intsOf xs, u.oneCell' = true := by
  intro u hu
  simp only [intsOf, List.mem_map] at hu
  obtain ⟨b, _, rfl⟩ := hu
  rfl
theorem RV.int {w : World} {B : Nat} {A : Option Addr} {xs : List Int} (h : RV w B A (intsOf xs)) {k : Nat} (hk : k < xs.length) : ∃ g o, A = some ⟨g, o, none⟩ ∧ g < B ∧ w.cell? ⟨g, o + k, none⟩ = some (.int .i64 xs[k]) := by
  obtain ⟨g, o, e, hg, hc⟩ := h (by rw [intsOf_length]; omega)
  exact ⟨g, o, e, hg, hc k _ (intsOf_get _ _ _ (List.getElem?_eq_getElem hk))⟩

theorem info_int : (Try.prog.info? 3).map (fun i => (i.zero, i.size, i.bytes)) = some (some (.int .i64 0), 1, 8) := by kernel_rfl

theorem run_append_i (w : World) (ty base : Nat) (v : Value) (n : Nat) (xs : List Int) (hown : w.ownsRow base 3 1 v n (intsOf xs)) (B : Nat) (A : Option Addr) (m c : Nat) (ds : List Int) (hm : ds.length = m) (hr : RV w B A (intsOf ds))
    (hn : n + m ≤ 67108864) (hbase : base ≤ w.heap.size) :
    ∃ v' w', (Builtin.append_ #[43, 43] ty #[v, .slice A m c]).run Try.prog w = .ok v' w' ∧ w'.ownsRow base 3 1 v' (n + m) (intsOf (xs ++ ds)) ∧ w.grownBy w' v.ownBlock ∧
      (v'.ownBlock = v.ownBlock ∨ v'.ownBlock = some w.heap.size) := by
  obtain ⟨i0, hi0, hz0, hz1, hz2⟩ := info_parts info_int
  rw [intsOf_append]
  exact run_append_v w 43 ty 3 i0 (.int .i64 0) 1 8 Try.underlying43 hi0 hz0 hz1 hz2 rfl (by omega) base v n _ hown B A m c _ (by rw [intsOf_length, hm, Nat.mul_one]) hr (intsOf_one ds) (by unfold maxLen; omega) (by omega) hbase

/-- 'append' onto a row of integers of the call's own, from whatever source of integers. -/
theorem wpList_append_i {w : World} {ops : Array Oper} {rest : List Oper} {o : Oper} {a : Act} {Q : Exit → Act → World → Prop} (hgd : o.guard = none) (s x : Operand)
    (ho : o.op = .call { callee := .builtin .append, args := #[s, x], argTypes := #[43, 43] }) (base : Nat) (v : Value) (n : Nat) (xs : List Int) (hs : a.eval s = v) (hown : w.ownsRow base 3 1 v n (intsOf xs))
    (B : Nat) (A : Option Addr) (m c : Nat) (ds : List Int) (hx : a.eval x = .slice A m c) (hm : ds.length = m) (hr : RV w B A (intsOf ds)) (hn : n + m ≤ 67108864) (hbase : base ≤ w.heap.size)
    (h : ∀ v' w', w'.ownsRow base 3 1 v' (n + m) (intsOf (xs ++ ds)) → w.grownBy w' v.ownBlock → (v'.ownBlock = v.ownBlock ∨ v'.ownBlock = some w.heap.size) → wpList Try.prog ops Q rest (a.put o.dst v') w') :
    wpList Try.prog ops Q (o :: rest) a w := by
  refine wpList_plain hgd fun K hK => ?_
  obtain ⟨v', w', hrun, h2, h3, h4⟩ := run_append_i w o.type base v n xs hown B A m c ds hm hr hn hbase
  unfold Oper.wp execOp
  simp only [ho, resolve, invoke, builtin, Sem.run_bind, Sem.run_pure, Result.andThen_ok, List.map_toArray, List.map_cons, List.map_nil, hs, hx, hrun]
  exact hK _ _ (h v' w' h2 h3 h4)

/-- The same, as one step of a region that draws its order. -/
theorem step_append_i {w : World} {ops : Array Oper} {o : Oper} {a : Act} {K : Act → World → Prop} {Q : Exit → Act → World → Prop} {E : Prop} (hgd : o.guard = none) (s x : Operand)
    (ho : o.op = .call { callee := .builtin .append, args := #[s, x], argTypes := #[43, 43] }) (base : Nat) (v : Value) (n : Nat) (xs : List Int) (hs : a.eval s = v) (hown : w.ownsRow base 3 1 v n (intsOf xs))
    (B : Nat) (A : Option Addr) (m c : Nat) (ds : List Int) (hx : a.eval x = .slice A m c) (hm : ds.length = m) (hr : RV w B A (intsOf ds)) (hn : n + m ≤ 67108864) (hbase : base ≤ w.heap.size)
    (h : ∀ v' w', w'.ownsRow base 3 1 v' (n + m) (intsOf (xs ++ ds)) → w.grownBy w' v.ownBlock → (v'.ownBlock = v.ownBlock ∨ v'.ownBlock = some w.heap.size) → K (a.put o.dst v') w') :
    if Region.wanted o (yielded ops a.tmps) = true then Oper.wp Try.prog o a w K Q else E := by
  have hw : Region.wanted o (yielded ops a.tmps) = true := by simp [Region.wanted, hgd]
  rw [if_pos hw]
  obtain ⟨v', w', hrun, h2, h3, h4⟩ := run_append_i w o.type base v n xs hown B A m c ds hm hr hn hbase
  unfold Oper.wp execOp
  simp only [ho, resolve, invoke, builtin, Sem.run_bind, Sem.run_pure, Result.andThen_ok, List.map_toArray, List.map_cons, List.map_nil, hs, hx, hrun]
  exact h v' w' h2 h3 h4
end Go.Proofs.Ytkmijefheejcjaa

namespace Go.Proofs.Ytkmijefheejcjaa
set_option maxRecDepth 100000
open Go.RowKit Go.ChangeShapes Go.WideShapes Go.ChangeAt

structure In (w : World) (A : Option Addr) (n c : Nat) (bs : List UInt8) : Prop where
  len : bs.length = n
  cap : n ≤ c
  big : c ≤ maxLen
  rb : RB w w.heap.size A bs

theorem byte_of_wf (z : Int) (h : (Lit.int .u8 z).wf = true) : ((UInt8.ofNat z.toNat).toNat : Int) = z := by
  have hb := bounds_u8 h
  simp
  omega

theorem bytes_in {H : Type} {enc : TypeId × Value → H} {w : World} {A : Option Addr} {n c : Nat} {d : DataW H} {p : List MemPlace} (h : DataW.Trod enc Try.prog w 0 (fun _ => true) true 22 (.slice A n c) d p) :
    ∃ bs, In w A n c bs := by
  obtain ⟨fuel, hf⟩ := h
  rcases open_ints Try.underlying22 Try.underlying5 (by kernel_rfl) hf with ⟨hcs, _⟩ | ⟨x, l, cp, zs, hcs, _, hl, hm, hz, _, hcell, hwz⟩
  · simp [Value.cells] at hcs
    obtain ⟨rfl, rfl, rfl⟩ := hcs
    exact ⟨[], rfl, Nat.le_refl _, Nat.zero_le _, RB.nil_ _ _ _⟩
  · simp [Value.cells] at hcs
    obtain ⟨rfl, rfl, rfl⟩ := hcs
    simp only [if_true] at hz
    refine ⟨(zs.take n).map fun z => UInt8.ofNat z.toNat, by simp; omega, hl, hm, fun hp => ?_⟩
    simp only [List.length_map, List.length_take] at hp
    obtain ⟨g, o, spot⟩ := x
    have h0 := hcell 0 (by omega)
    have hspot : spot = none := by simpa [Addr.add] using World.cell?_spot h0
    subst hspot
    refine ⟨g, o, rfl, ?_, fun j u hu => ?_⟩
    · have := World.block_lt_of_cell? w _ h0
      simpa [addr_add] using this
    · simp only [List.getElem?_map, Option.map_eq_some_iff, List.getElem?_take] at hu
      obtain ⟨z, hz1, rfl⟩ := hu
      split at hz1
      · have hj : j < zs.length := by omega
        have hc := hcell j hj
        rw [addr_add] at hc
        rw [hc]
        have hzj : zs[j] = z := by rw [List.getElem?_eq_getElem hj] at hz1; simpa using hz1
        rw [byte_of_wf z (hwz z (by rw [← hzj]; exact List.getElem_mem hj))]
        simp [hj, hzj]
      · cases hz1
end Go.Proofs.Ytkmijefheejcjaa

namespace Go.Proofs.Ytkmijefheejcjaa
set_option maxRecDepth 100000
open Go.RowKit

/-- An extension header, and where its body lies. -/
structure Ey where
  k : Int
  bs : List UInt8
  A : Option Addr
  c : Nat
def Ey.zero : Ey := ⟨0, [], none, 0⟩
def Ey.body (y : Ey) : Value := .slice y.A y.bs.length y.c
def Ey.cells (y : Ey) : List Value := [.int .i64 y.k, .slice y.A y.bs.length y.c]
/-- What it says. -/
def Ey.says (y : Ey) : Int × List UInt8 := (y.k, y.bs)
def xcells (ys : List Ey) : List Value := ys.flatMap Ey.cells

theorem xcells_nil : xcells [] = [] := rfl
theorem xcells_cons (y : Ey) (ys : List Ey) : xcells (y :: ys) = .int .i64 y.k :: .slice y.A y.bs.length y.c :: xcells ys := by simp [xcells, Ey.cells]
theorem xcells_append (ys zs : List Ey) : xcells (ys ++ zs) = xcells ys ++ xcells zs := by simp [xcells]
theorem xcells_length (ys : List Ey) : (xcells ys).length = ys.length * 2 := by
  induction ys with
  | nil => rfl
  | cons y ys ih => rw [xcells_cons]; simp [ih]; omega
theorem xcells_get0 (ys : List Ey) (i : Nat) (h : i < ys.length) : (xcells ys)[i * 2]? = some (.int .i64 ys[i].k) := by
  induction ys generalizing i with
  | nil => simp at h
  | cons y ys ih =>
    rw [xcells_cons]
    cases i with
    | zero => simp
    | succ i => simp at h; simp [Nat.succ_mul, ih i h]
theorem xcells_get1 (ys : List Ey) (i : Nat) (h : i < ys.length) : (xcells ys)[i * 2 + 1]? = some (.slice ys[i].A ys[i].bs.length ys[i].c) := by
  induction ys generalizing i with
  | nil => simp at h
  | cons y ys ih =>
    rw [xcells_cons]
    cases i with
    | zero => simp
    | succ i => simp at h; rw [Nat.succ_mul]; simp [ih i h]
theorem xcells_one (ys : List Ey) : ∀ u ∈ xcells ys, u.oneCell' = true := by
  intro u hu
  simp only [xcells, List.mem_flatMap] at hu
  obtain ⟨y, _, hy⟩ := hu
  simp only [Ey.cells, List.mem_cons, List.not_mem_nil, or_false] at hy
  rcases hy with rfl | rfl <;> rfl
theorem xcells_set (ys : List Ey) (e y : Ey) (zs : List Ey) (i : Nat) (h : ys.length = i) : ((xcells (ys ++ e :: zs)).set (i * 2) (.int .i64 y.k)).set (i * 2 + 1) (.slice y.A y.bs.length y.c) = xcells (ys ++ y :: zs) := by
  rw [xcells_append, xcells_append, xcells_cons, xcells_cons]
  have hl := xcells_length ys
  rw [set_mid _ _ _ _ _ (by rw [hl, h])]
  rw [show xcells ys ++ Value.int .i64 y.k :: Value.slice e.A e.bs.length e.c :: xcells zs = (xcells ys ++ [Value.int .i64 y.k]) ++ Value.slice e.A e.bs.length e.c :: xcells zs by simp]
  rw [set_mid _ _ _ _ _ (by simp [hl, h])]
  simp
theorem made_two (n : Nat) : (madeCells #[Value.int .i64 0, .slice none 0 0] (n * 2)).toList = xcells (List.replicate n Ey.zero) := by
  apply List.ext_getElem?
  intro i
  simp only [madeCells, Array.toList_map, Array.toList_range, List.getElem?_map]
  by_cases h : i < n * 2
  · rw [List.getElem?_range h]
    have h1 : i / 2 < (List.replicate n Ey.zero).length := by simp; omega
    rcases Nat.mod_two_eq_zero_or_one i with e | e
    · have e2 : i = (i / 2) * 2 := by omega
      rw [e2, xcells_get0 _ _ h1]
      simp [Ey.zero]
    · have e2 : i = (i / 2) * 2 + 1 := by omega
      rw [e2, xcells_get1 _ _ h1]
      simp [Ey.zero, Nat.add_mod]
  · rw [List.getElem?_eq_none (show (List.range (n * 2)).length ≤ i by simp; omega), List.getElem?_eq_none (show (xcells (List.replicate n Ey.zero)).length ≤ i by rw [xcells_length]; simp; omega)]
    rfl

/-- The bytes of the bodies in all. -/
def bodies (ys : List Ey) : Nat := (ys.map fun y => y.bs.length).sum
theorem bodies_take (ys : List Ey) (i : Nat) (h : i < ys.length) : bodies (ys.take (i + 1)) = bodies (ys.take i) + ys[i].bs.length := by
  rw [take_snoc ys i h]
  simp only [bodies, List.map_append, List.sum_append, List.map_cons, List.map_nil, List.sum_cons, List.sum_nil, Nat.add_zero]
theorem bodies_le (ys : List Ey) (i : Nat) : bodies (ys.take i) ≤ bodies ys := by
  induction ys generalizing i with
  | nil => simp [bodies]
  | cons y ys ih =>
    cases i with
    | zero => simp [bodies]
    | succ i => simp [bodies]; have := ih i; simp [bodies] at this; omega
theorem bodies_at (ys : List Ey) (i : Nat) (h : i < ys.length) : ys[i].bs.length ≤ bodies ys := by
  have := bodies_take ys i h
  have := bodies_le ys (i + 1)
  omega

/-- A row of extension headers that can be read, with its bodies. -/
structure XR (w : World) (B : Nat) (A : Option Addr) (ys : List Ey) : Prop where
  row : RV w B A (xcells ys)
  body : ∀ y ∈ ys, RB w B y.A y.bs
section
variable {w w' : World} {B B' : Nat} {A : Option Addr} {ys : List Ey}
theorem XR.below (h : XR w B A ys) (hb : Below B w w') : XR w' B A ys := ⟨h.row.below hb, fun y hy => (h.body y hy).below hb⟩
theorem XR.more (h : XR w B A ys) (hB : B ≤ B') : XR w B' A ys := ⟨h.row.more hB, fun y hy => (h.body y hy).more hB⟩
theorem XR.on (h : XR w w.heap.size A ys) (hb : Below w.heap.size w w') : XR w' w'.heap.size A ys := (h.below hb).more hb.size
theorem XR.at_ (h : XR w B A ys) {i : Nat} (hi : i < ys.length) : ∃ g o, A = some ⟨g, o, none⟩ ∧ g < B ∧ w.cell? ⟨g, o + i * 2, none⟩ = some (.int .i64 ys[i].k) ∧ w.cell? ⟨g, o + i * 2 + 1, none⟩ = some (.slice ys[i].A ys[i].bs.length ys[i].c) := by
  obtain ⟨g, o, e, hg, hc⟩ := h.row (by rw [xcells_length]; omega)
  exact ⟨g, o, e, hg, hc _ _ (xcells_get0 ys i hi), by rw [Nat.add_assoc]; exact hc _ _ (xcells_get1 ys i hi)⟩
end

/-- A row of extension headers that came in. -/
structure XIn (w : World) (A : Option Addr) (n c : Nat) (ys : List Ey) : Prop where
  len : ys.length = n
  cap : n ≤ c
  big : c ≤ maxLen
  row : RV w w.heap.size A (xcells ys)
  body : ∀ y ∈ ys, In w y.A y.bs.length y.c y.bs
theorem XIn.xr {w : World} {A : Option Addr} {n c : Nat} {ys : List Ey} (h : XIn w A n c ys) : XR w w.heap.size A ys := ⟨h.row, fun y hy => (h.body y hy).rb⟩

/-- The head of a packet, but for its extension headers. -/
structure Sh where
  cls : Int
  label : Int
  hops : Int
  proto : Int
  src : Ad
  dst : Ad
deriving DecidableEq
def Sh.zero : Sh := ⟨0, 0, 0, 0, Ad.zero, Ad.zero⟩
def inner (k : Int) : Bool := decide (k = 0 ∨ k = 43 ∨ k = 60)
def adOk6 (x : Ad) : Bool := decide (x.k = 6) && x.ok
/-- May an extension header of this kind with n bytes of a body lie at place i? -/
def extOk (i : Nat) (e : Int × List UInt8) : Bool := inner e.1 && !(decide (e.1 = 0) && decide (0 < i)) && decide (e.2.length ≤ 62) && decide (e.2.length % 8 = 6)
def extsFrom : Nat → List (Int × List UInt8) → Bool
  | _, [] => true
  | i, e :: es => extOk i e && extsFrom (i + 1) es
def extsOk (es : List (Int × List UInt8)) : Bool := decide (es.length ≤ 3) && extsFrom 0 es
def extsSize (es : List (Int × List UInt8)) : Nat := (es.map fun e => 2 + e.2.length).sum
def Sh.small (x : Sh) : Bool := upTo x.cls 255 && upTo x.label 1048575 && upTo x.hops 255 && upTo x.proto 255 && !inner x.proto
def Sh.ok (x : Sh) (es : List (Int × List UInt8)) (m : Nat) : Bool := x.small && adOk6 x.src && adOk6 x.dst && extsOk es && decide ((m : Int) ≤ 1460 - extsSize es)
theorem extsSize_take {es : List (Int × List UInt8)} {i : Nat} (h : i < es.length) : extsSize (es.take (i + 1)) = extsSize (es.take i) + (2 + es[i].2.length) := by
  rw [take_snoc es i h]
  simp only [extsSize, List.map_append, List.sum_append, List.map_cons, List.map_nil, List.sum_cons, List.sum_nil, Nat.add_zero]
theorem extsFrom_take {es : List (Int × List UInt8)} {i : Nat} (h : i < es.length) : extsFrom 0 (es.take (i + 1)) = (extsFrom 0 (es.take i) && extOk i es[i]) := by
  suffices H : ∀ j, extsFrom j (es.take (i + 1)) = (extsFrom j (es.take i) && extOk (j + i) es[i]) by simpa using H 0
  induction es generalizing i with
  | nil => simp at h
  | cons e es ih =>
    intro j
    cases i with
    | zero => simp [extsFrom]
    | succ i =>
      simp at h
      have := ih h (j + 1)
      rw [List.take_succ_cons, List.take_succ_cons, extsFrom, extsFrom, this, Bool.and_assoc]
      simp [show j + 1 + i = j + (i + 1) by omega]
theorem extsFrom_prefix {es : List (Int × List UInt8)} (i j : Nat) (h : extsFrom j es = true) : extsFrom j (es.take i) = true := by
  induction es generalizing i j with
  | nil => simp [extsFrom]
  | cons e es ih =>
    cases i with
    | zero => rfl
    | succ i =>
      rw [extsFrom, Bool.and_eq_true] at h
      rw [List.take_succ_cons, extsFrom, Bool.and_eq_true]
      exact ⟨h.1, ih i _ h.2⟩
end Go.Proofs.Ytkmijefheejcjaa

namespace Go.Proofs.Ytkmijefheejcjaa
set_option maxRecDepth 100000
open Go.RowKit

/-- Is there no extension header of this kind behind q others at place k, in a packet that ends at e? -/
def noExt (bs : List UInt8) (e q k kind : Nat) : Bool :=
  decide (q = 3) || (decide (kind = 0) && decide (0 < q)) || decide (e < k + 2) || decide (7 < num bs (k + 1) 1) || decide (e < k + 8 * num bs (k + 1) 1 + 8)
/-- The extension headers from place k on: they, the kind behind them, the place behind them. -/
def walkX (bs : List UInt8) (e : Nat) : Nat → Nat → Nat → List (Int × List UInt8) → Option (List (Int × List UInt8) × Nat × Nat)
  | 0, _, _, _ => none
  | f + 1, k, kind, acc =>
    if inner kind then (if noExt bs e acc.length k kind then none else walkX bs e f (k + 8 * num bs (k + 1) 1 + 8) (num bs k 1) (acc ++ [((kind : Int), (bs.drop (k + 2)).take (8 * num bs (k + 1) 1 + 6))]))
    else some (acc, kind, k)
def sEnd (bs : List UInt8) : Nat := 40 + num bs 4 2
def sWalk (bs : List UInt8) : Option (List (Int × List UInt8) × Nat × Nat) := walkX bs (sEnd bs) 4 40 (num bs 6 1) []
def src6 (bs : List UInt8) : Int := if 1600 < bs.length then 1 else if bs.length < 40 then 2 else if num bs 0 1 / 16 ≠ 6 then 3 else if 1500 < sEnd bs ∨ bs.length < sEnd bs then 4 else if (sWalk bs).isNone then 5 else 0
theorem walkX_no {bs : List UInt8} {e f k kind : Nat} {acc : List (Int × List UInt8)} (hi : inner kind = true) (h : noExt bs e acc.length k kind = true) : walkX bs e (f + 1) k kind acc = none := by simp [walkX, hi, h]
theorem walkX_end {bs : List UInt8} {e f k kind : Nat} {acc : List (Int × List UInt8)} (hi : inner kind = false) : walkX bs e (f + 1) k kind acc = some (acc, kind, k) := by simp [walkX, hi]
theorem walkX_go {bs : List UInt8} {e f k kind : Nat} {acc : List (Int × List UInt8)} (hi : inner kind = true) (h : noExt bs e acc.length k kind = false) : walkX bs e (f + 1) k kind acc = walkX bs e f (k + 8 * num bs (k + 1) 1 + 8) (num bs k 1) (acc ++ [((kind : Int), (bs.drop (k + 2)).take (8 * num bs (k + 1) 1 + 6))]) := by
  simp [walkX, hi, h]
theorem noExt_full {bs : List UInt8} {e k kind : Nat} : noExt bs e 3 k kind = true := by simp [noExt]
theorem noExt_iff {bs : List UInt8} {e q k kind : Nat} : noExt bs e q k kind = false ↔ q ≠ 3 ∧ (kind ≠ 0 ∨ q = 0) ∧ k + 2 ≤ e ∧ num bs (k + 1) 1 ≤ 7 ∧ k + 8 * num bs (k + 1) 1 + 8 ≤ e := by
  simp only [noExt, Bool.or_eq_false_iff, Bool.and_eq_false_iff, decide_eq_false_iff_not]
  omega
end Go.Proofs.Ytkmijefheejcjaa

namespace Go.Proofs.Ytkmijefheejcjaa.K
open Go.RowKit

section
variable {w : World} {g : Nat} {t : TypeId}
theorem cells19 {v0 v1 v2 v3 v4 v5 v6 v7 v8 v9 v10 v11 v12 v13 v14 v15 v16 v17 v18 : Value} (h : w.heap[g]? = some (.cells #[v0, v1, v2, v3, v4, v5, v6, v7, v8, v9, v10, v11, v12, v13, v14, v15, v16, v17, v18] t (0, 0))) : w.cell? ⟨g, 0, none⟩ = some v0 ∧ w.cell? ⟨g, 1, none⟩ = some v1 ∧ w.cell? ⟨g, 2, none⟩ = some v2 ∧ w.cell? ⟨g, 3, none⟩ = some v3 ∧ w.cell? ⟨g, 4, none⟩ = some v4 ∧ w.cell? ⟨g, 5, none⟩ = some v5 ∧ w.cell? ⟨g, 6, none⟩ = some v6 ∧ w.cell? ⟨g, 7, none⟩ = some v7 ∧ w.cell? ⟨g, 8, none⟩ = some v8 ∧ w.cell? ⟨g, 9, none⟩ = some v9 ∧ w.cell? ⟨g, 10, none⟩ = some v10 ∧ w.cell? ⟨g, 11, none⟩ = some v11 ∧ w.cell? ⟨g, 12, none⟩ = some v12 ∧ w.cell? ⟨g, 13, none⟩ = some v13 ∧ w.cell? ⟨g, 14, none⟩ = some v14 ∧ w.cell? ⟨g, 15, none⟩ = some v15 ∧ w.cell? ⟨g, 16, none⟩ = some v16 ∧ w.cell? ⟨g, 17, none⟩ = some v17 ∧ w.cell? ⟨g, 18, none⟩ = some v18 :=
  ⟨cell_of_row w g 0 _ _ _ h, cell_of_row w g 1 _ _ _ h, cell_of_row w g 2 _ _ _ h, cell_of_row w g 3 _ _ _ h, cell_of_row w g 4 _ _ _ h, cell_of_row w g 5 _ _ _ h, cell_of_row w g 6 _ _ _ h, cell_of_row w g 7 _ _ _ h, cell_of_row w g 8 _ _ _ h, cell_of_row w g 9 _ _ _ h, cell_of_row w g 10 _ _ _ h, cell_of_row w g 11 _ _ _ h, cell_of_row w g 12 _ _ _ h, cell_of_row w g 13 _ _ _ h, cell_of_row w g 14 _ _ _ h, cell_of_row w g 15 _ _ _ h, cell_of_row w g 16 _ _ _ h, cell_of_row w g 17 _ _ _ h, cell_of_row w g 18 _ _ _ h⟩
theorem frozen19 {v0 v1 v2 v3 v4 v5 v6 v7 v8 v9 v10 v11 v12 v13 v14 v15 v16 v17 v18 : Value} (h : w.heap[g]? = some (.cells #[v0, v1, v2, v3, v4, v5, v6, v7, v8, v9, v10, v11, v12, v13, v14, v15, v16, v17, v18] t (0, 0))) : w.frozen? ⟨g, 0, none⟩ = false ∧ w.frozen? ⟨g, 1, none⟩ = false ∧ w.frozen? ⟨g, 2, none⟩ = false ∧ w.frozen? ⟨g, 3, none⟩ = false ∧ w.frozen? ⟨g, 4, none⟩ = false ∧ w.frozen? ⟨g, 5, none⟩ = false ∧ w.frozen? ⟨g, 6, none⟩ = false ∧ w.frozen? ⟨g, 7, none⟩ = false ∧ w.frozen? ⟨g, 8, none⟩ = false ∧ w.frozen? ⟨g, 9, none⟩ = false ∧ w.frozen? ⟨g, 10, none⟩ = false ∧ w.frozen? ⟨g, 11, none⟩ = false ∧ w.frozen? ⟨g, 12, none⟩ = false ∧ w.frozen? ⟨g, 13, none⟩ = false ∧ w.frozen? ⟨g, 14, none⟩ = false ∧ w.frozen? ⟨g, 15, none⟩ = false ∧ w.frozen? ⟨g, 16, none⟩ = false ∧ w.frozen? ⟨g, 17, none⟩ = false ∧ w.frozen? ⟨g, 18, none⟩ = false :=
  ⟨frozen_of_row w g 0 _ _ h, frozen_of_row w g 1 _ _ h, frozen_of_row w g 2 _ _ h, frozen_of_row w g 3 _ _ h, frozen_of_row w g 4 _ _ h, frozen_of_row w g 5 _ _ h, frozen_of_row w g 6 _ _ h, frozen_of_row w g 7 _ _ h, frozen_of_row w g 8 _ _ h, frozen_of_row w g 9 _ _ h, frozen_of_row w g 10 _ _ h, frozen_of_row w g 11 _ _ h, frozen_of_row w g 12 _ _ h, frozen_of_row w g 13 _ _ h, frozen_of_row w g 14 _ _ h, frozen_of_row w g 15 _ _ h, frozen_of_row w g 16 _ _ h, frozen_of_row w g 17 _ _ h, frozen_of_row w g 18 _ _ h⟩
theorem newAt {w : World} {o : Obj} {g : Nat} (h : g = w.heap.size) : (w.alloc o).heap[g]? = some o := h ▸ new w o
theorem oldAt {w : World} {o x : Obj} {g : Nat} (h : g < w.heap.size) (k : w.heap[g]? = some o) : (w.alloc x).heap[g]? = some o := (Below.heap_alloc w x g h).trans k
end
end Go.Proofs.Ytkmijefheejcjaa.K
