/-
  An IPv4 packet is read by the model: the codes ahead of its checksum. An IPv4 packet is read by the model: its checksum, and where it is read. An IPv4 packet is read by the model, whatever the bytes. The marking of an IPv4 packet whose options take up all the room that the laws allow.
-/
import Derived.Test.YtekdfffjlcikeaaKuB
import Derived.Test.YtekdfffjlcikeaaFourBytes
import Derived.Test.YtekdfffjlcikeaaAddrOf
import Derived.Deep.Cut
import Derived.Test.YtekdfffjlcikeaaFour3
namespace Go.Proofs.Ytekdfffjlcikeaa
open Go.RowKit

theorem num_one (bs : List UInt8) (k : Nat) (h : k < bs.length) : num bs k 1 = bs[k].toNat := by
  have e : (bs.drop k).take 1 = [bs[k]] := by
    rw [List.drop_eq_getElem_cons h]
    rfl
  unfold num
  rw [e]
  simp [be]
theorem be16L (A : Option Addr) (n c : Nat) (bs : List UInt8) (k v : Nat) (w : World) (hr : RB w w.heap.size A bs) (hl : bs.length = n) (hn : n ≤ 1048576) (h : k + 2 ≤ n) (hv : num bs k 2 = v) :
    Calls Try.prog 47 #[.slice A n c, .int .i64 (k : Int)] w fun e w' => e = .returned (.tuple #[.int .i64 (v : Int), .bool true]) ∧ Below w.heap.size w w' := by
  subst hv
  exact specBe16 A n c bs k w hr hl hn h

section
variable {a a' : Act} {n : Nat}
/-- A frame of which all slots but some are known is the old one with these written. -/
theorem act_eqL (hsz : a'.tmps.size = n) (hdf : a'.defers = a.defers) (hn : a.tmps.size = n) : ∀ (l : List (Nat × Value)) (b : Act), b.tmps.size = n → b.defers = a.defers → (∀ p ∈ l, p.1 < n ∧ a'.tmps.getD p.1 undef = p.2) → (∀ t, (∀ p ∈ l, p.1 ≠ t) → a'.tmps.getD t undef = b.tmps.getD t undef) → a' = l.foldl (fun b p => b.put (some p.1) p.2) b
  | [], b, hb, hbd, _, h => by
    obtain ⟨tm, df⟩ := a'
    obtain ⟨tb, db⟩ := b
    simp only at hsz hb hbd hdf h
    subst hbd
    subst hdf
    have : tm = tb := ext_getD (by omega) (fun i => h i (by simp))
    subst this
    rfl
  | (d, v) :: l, b, hb, hbd, hl, h => by
    have hd := hl (d, v) (by simp)
    refine act_eqL hsz hdf hn l (b.put (some d) v) (by show (b.tmps.setIfInBounds d v).size = n; simp only [Array.size_setIfInBounds]; exact hb) hbd (fun p hp => hl p (by simp [hp])) (fun t ht => ?_)
    show _ = (b.tmps.setIfInBounds d v).getD t undef
    rw [getD_set _ _ _ _ (by omega)]
    by_cases e : t = d
    · rw [if_pos e, e]
      exact hd.2
    · rw [if_neg e]
      refine h t (fun p hp => ?_)
      rcases List.mem_cons.1 hp with rfl | hp
      · exact Ne.symm e
      · exact ht p hp
end

set_option maxRecDepth 100000 in
set_option maxHeartbeats 1000000 in
theorem readS_long (A : Option Addr) (n c : Nat) (bs : List UInt8) (w : World) (hl : bs.length = n) (hs : n ≤ 1048576) (hn : 1600 < n) : Calls Try.prog 25 #[.slice A n c] w (FROut bs w) := by
  have H := Lib.hid (show frc bs = 1 by simp [frc, hl, hn])
  clear hl
  have z0 := Lib.hid (K.new w (.cells #[.int .i64 0, .int .i64 0, .int .i64 0, .int .i64 0, .int .i64 0, .int .i64 0, .int .i64 0, .int .i64 0, .int .i64 0, .int .i64 0, .int .i64 0, .int .i64 0, .int .i64 0, .int .i64 0, .int .i64 0, .int .i64 0, .int .i64 0, .slice none 0 0, .slice none 0 0] 31))
  go_enter Try.func25, Try.ntmps25
  go_wp2_with (with_reducible refine storeF rfl _ _ rfl w.heap.size rfl rfl z0.out ?_)
  (try simp only [Exit.inBlock, Exit.then])
  refine bodyPost_ret (v := .tuple #[.agg #[.int .i64 0, .int .i64 0, .int .i64 0, .int .i64 0, .int .i64 0, .int .i64 0, .int .i64 0, .int .i64 0, .int .i64 0, .int .i64 0, .int .i64 0, .int .i64 0, .int .i64 0, .int .i64 0, .int .i64 0, .int .i64 0, .int .i64 0, .slice none 0 0, .slice none 0 0], .slice none 0 0, .int .i64 1]) ?_ rfl (frOut_no H.out (by omega) (K.setRow_below (Joins.below_alloc1 w _) (Nat.le_refl _) _))
  exact K.resCell3 Try.results25 _ _ _ w.heap.size _ rfl (run_loadVar_row _ _ 31 31 _ (0, 0) _ (setRow_heap _ _ _ _ _ _ z0.out) Try.underlying31 rfl info_four)

set_option maxRecDepth 100000 in
set_option maxHeartbeats 1000000 in
theorem readS_short (A : Option Addr) (n c : Nat) (bs : List UInt8) (w : World) (hl : bs.length = n) (hs : n ≤ 1048576) (hn : n < 20) : Calls Try.prog 25 #[.slice A n c] w (FROut bs w) := by
  have H := Lib.hid (show frc bs = 2 by simp [frc, hl, hn, show ¬ 1600 < n by omega])
  clear hl
  have z0 := Lib.hid (K.new w (.cells #[.int .i64 0, .int .i64 0, .int .i64 0, .int .i64 0, .int .i64 0, .int .i64 0, .int .i64 0, .int .i64 0, .int .i64 0, .int .i64 0, .int .i64 0, .int .i64 0, .int .i64 0, .int .i64 0, .int .i64 0, .int .i64 0, .int .i64 0, .slice none 0 0, .slice none 0 0] 31))
  go_enter Try.func25, Try.ntmps25
  go_wp2_with (with_reducible refine storeF rfl _ _ rfl w.heap.size rfl rfl z0.out ?_)
  (try simp only [Exit.inBlock, Exit.then])
  refine bodyPost_ret (v := .tuple #[.agg #[.int .i64 0, .int .i64 0, .int .i64 0, .int .i64 0, .int .i64 0, .int .i64 0, .int .i64 0, .int .i64 0, .int .i64 0, .int .i64 0, .int .i64 0, .int .i64 0, .int .i64 0, .int .i64 0, .int .i64 0, .int .i64 0, .int .i64 0, .slice none 0 0, .slice none 0 0], .slice none 0 0, .int .i64 2]) ?_ rfl (frOut_no H.out (by omega) (K.setRow_below (Joins.below_alloc1 w _) (Nat.le_refl _) _))
  exact K.resCell3 Try.results25 _ _ _ w.heap.size _ rfl (run_loadVar_row _ _ 31 31 _ (0, 0) _ (setRow_heap _ _ _ _ _ _ z0.out) Try.underlying31 rfl info_four)

set_option maxRecDepth 100000 in
set_option maxHeartbeats 2000000 in
theorem readS_3 (a : Addr) (n c : Nat) (bs : List UInt8) (w : World) (hr : RB w w.heap.size (some a) bs) (hl : bs.length = n) (hs : n ≤ 1600) (hn : 20 ≤ n) (b0 : Nat) (e0 : num bs 0 1 = b0) (hv : ¬ (b0 : Int) / 16 = 4) (hf : frc bs = 3) : Calls Try.prog 25 #[.slice (some a) n c] w (FROut bs w) := by
  obtain ⟨gg, oo, ea, hg, c0⟩ := hr.at_ (k := 0) (by omega)
  injection ea with ea
  subst ea
  rw [← num_one bs 0 (by omega), e0, Nat.add_zero] at c0
  have hb0 : b0 < 256 := by rw [← e0]; exact num_lt1 bs 0
  have d0 := cell_on (Joins.below_alloc1 w (.cells #[.int .i64 0, .int .i64 0, .int .i64 0, .int .i64 0, .int .i64 0, .int .i64 0, .int .i64 0, .int .i64 0, .int .i64 0, .int .i64 0, .int .i64 0, .int .i64 0, .int .i64 0, .int .i64 0, .int .i64 0, .int .i64 0, .int .i64 0, .slice none 0 0, .slice none 0 0] 31)) c0
  have z0 := Lib.hid (K.new w (.cells #[.int .i64 0, .int .i64 0, .int .i64 0, .int .i64 0, .int .i64 0, .int .i64 0, .int .i64 0, .int .i64 0, .int .i64 0, .int .i64 0, .int .i64 0, .int .i64 0, .int .i64 0, .int .i64 0, .int .i64 0, .int .i64 0, .int .i64 0, .slice none 0 0, .slice none 0 0] 31))
  have H := Lib.hid hf
  clear hf hl e0 c0 hr hg
  go_enter Try.func25, Try.ntmps25
  go_wp2_with (with_reducible refine storeF rfl _ _ rfl w.heap.size rfl rfl z0.out ?_)
  (try simp only [Exit.inBlock, Exit.then])
  refine bodyPost_ret (v := .tuple #[.agg #[.int .i64 0, .int .i64 0, .int .i64 0, .int .i64 0, .int .i64 0, .int .i64 0, .int .i64 0, .int .i64 0, .int .i64 0, .int .i64 0, .int .i64 0, .int .i64 0, .int .i64 0, .int .i64 0, .int .i64 0, .int .i64 0, .int .i64 0, .slice none 0 0, .slice none 0 0], .slice none 0 0, .int .i64 3]) ?_ rfl (frOut_no H.out (by omega) (K.setRow_below (Joins.below_alloc1 w _) (Nat.le_refl _) _))
  exact K.resCell3 Try.results25 _ _ _ w.heap.size _ rfl (run_loadVar_row _ _ 31 31 _ (0, 0) _ (setRow_heap _ _ _ _ _ _ z0.out) Try.underlying31 rfl info_four)

set_option maxRecDepth 100000 in
set_option maxHeartbeats 2000000 in
theorem readS_4 (a : Addr) (n c : Nat) (bs : List UInt8) (w : World) (hr : RB w w.heap.size (some a) bs) (hl : bs.length = n) (hs : n ≤ 1600) (hn : 20 ≤ n) (b0 : Nat) (e0 : num bs 0 1 = b0) (hv : (b0 : Int) / 16 = 4) (hd : Nat) (ed : 4 * (b0 % 16) = hd) (hh : hd < 20 ∨ n < hd) (hf : frc bs = 4) : Calls Try.prog 25 #[.slice (some a) n c] w (FROut bs w) := by
  obtain ⟨gg, oo, ea, hg, c0⟩ := hr.at_ (k := 0) (by omega)
  injection ea with ea
  subst ea
  rw [← num_one bs 0 (by omega), e0, Nat.add_zero] at c0
  have hb0 : b0 < 256 := by rw [← e0]; exact num_lt1 bs 0
  have d0 := cell_on (Joins.below_alloc1 w (.cells #[.int .i64 0, .int .i64 0, .int .i64 0, .int .i64 0, .int .i64 0, .int .i64 0, .int .i64 0, .int .i64 0, .int .i64 0, .int .i64 0, .int .i64 0, .int .i64 0, .int .i64 0, .int .i64 0, .int .i64 0, .int .i64 0, .int .i64 0, .slice none 0 0, .slice none 0 0] 31)) c0
  have z0 := Lib.hid (K.new w (.cells #[.int .i64 0, .int .i64 0, .int .i64 0, .int .i64 0, .int .i64 0, .int .i64 0, .int .i64 0, .int .i64 0, .int .i64 0, .int .i64 0, .int .i64 0, .int .i64 0, .int .i64 0, .int .i64 0, .int .i64 0, .int .i64 0, .int .i64 0, .slice none 0 0, .slice none 0 0] 31))
  have H := Lib.hid hf
  have hwd2 : 4 * ((b0 : Int) % 16) = (hd : Int) := by omega
  clear hf hl e0 c0 hr ed hg
  rcases hh with hh | hh
  all_goals
    go_enter Try.func25, Try.ntmps25
    go_wp2_with (with_reducible refine storeF rfl _ _ rfl w.heap.size rfl rfl z0.out ?_)
    (try simp only [Exit.inBlock, Exit.then])
    refine bodyPost_ret (v := .tuple #[.agg #[.int .i64 0, .int .i64 0, .int .i64 0, .int .i64 0, .int .i64 0, .int .i64 0, .int .i64 0, .int .i64 0, .int .i64 0, .int .i64 0, .int .i64 0, .int .i64 0, .int .i64 0, .int .i64 0, .int .i64 0, .int .i64 0, .int .i64 0, .slice none 0 0, .slice none 0 0], .slice none 0 0, .int .i64 4]) ?_ rfl (frOut_no H.out (by omega) (K.setRow_below (Joins.below_alloc1 w _) (Nat.le_refl _) _))
    exact K.resCell3 Try.results25 _ _ _ w.heap.size _ rfl (run_loadVar_row _ _ 31 31 _ (0, 0) _ (setRow_heap _ _ _ _ _ _ z0.out) Try.underlying31 rfl info_four)

set_option maxRecDepth 100000 in
set_option maxHeartbeats 2000000 in
theorem readS_5 (a : Addr) (n c : Nat) (bs : List UInt8) (w : World) (hr : RB w w.heap.size (some a) bs) (hl : bs.length = n) (hs : n ≤ 1600) (hn : 20 ≤ n) (b0 : Nat) (e0 : num bs 0 1 = b0) (hv : (b0 : Int) / 16 = 4) (hd : Nat) (ed : 4 * (b0 % 16) = hd) (hh : 20 ≤ hd ∧ hd ≤ n) (t : Nat) (et : num bs 2 2 = t) (ht : t < hd ∨ (hd ≤ t ∧ 1500 < t) ∨ (hd ≤ t ∧ t ≤ 1500 ∧ n < t)) (hf : frc bs = 5) : Calls Try.prog 25 #[.slice (some a) n c] w (FROut bs w) := by
  obtain ⟨gg, oo, ea, hg, c0⟩ := hr.at_ (k := 0) (by omega)
  injection ea with ea
  subst ea
  rw [← num_one bs 0 (by omega), e0, Nat.add_zero] at c0
  have hb0 : b0 < 256 := by rw [← e0]; exact num_lt1 bs 0
  have d0 := cell_on (Joins.below_alloc1 w (.cells #[.int .i64 0, .int .i64 0, .int .i64 0, .int .i64 0, .int .i64 0, .int .i64 0, .int .i64 0, .int .i64 0, .int .i64 0, .int .i64 0, .int .i64 0, .int .i64 0, .int .i64 0, .int .i64 0, .int .i64 0, .int .i64 0, .int .i64 0, .slice none 0 0, .slice none 0 0] 31)) c0
  have z0 := Lib.hid (K.new w (.cells #[.int .i64 0, .int .i64 0, .int .i64 0, .int .i64 0, .int .i64 0, .int .i64 0, .int .i64 0, .int .i64 0, .int .i64 0, .int .i64 0, .int .i64 0, .int .i64 0, .int .i64 0, .int .i64 0, .int .i64 0, .int .i64 0, .int .i64 0, .slice none 0 0, .slice none 0 0] 31))
  have H := Lib.hid hf
  have hwd2 : 4 * ((b0 : Int) % 16) = (hd : Int) := by omega
  have R0 := Lib.hid (show RB (w.alloc (.cells #[.int .i64 0, .int .i64 0, .int .i64 0, .int .i64 0, .int .i64 0, .int .i64 0, .int .i64 0, .int .i64 0, .int .i64 0, .int .i64 0, .int .i64 0, .int .i64 0, .int .i64 0, .int .i64 0, .int .i64 0, .int .i64 0, .int .i64 0, .slice none 0 0, .slice none 0 0] 31)) (w.alloc (.cells #[.int .i64 0, .int .i64 0, .int .i64 0, .int .i64 0, .int .i64 0, .int .i64 0, .int .i64 0, .int .i64 0, .int .i64 0, .int .i64 0, .int .i64 0, .int .i64 0, .int .i64 0, .int .i64 0, .int .i64 0, .int .i64 0, .int .i64 0, .slice none 0 0, .slice none 0 0] 31)).heap.size (some ⟨gg, oo, none⟩) bs from (hr.below (Joins.below_alloc1 w _)).more (by simp))
  have HE := Lib.hid (And.intro hl et)
  clear hf hl e0 c0 hr ed et hg
  rcases hh with ⟨hh1, hh2⟩
  rcases ht with ht | ⟨ht0, ht⟩ | ⟨ht0, ht1, ht⟩
  all_goals
    go_enter Try.func25, Try.ntmps25
    go_wp2_with fail
    refine Calls.mono (be16L (some ⟨gg, oo, none⟩) n c bs 2 t _ R0.out HE.out.1 (by omega) (by omega) HE.out.2) ?_
    rintro e w1 ⟨rfl, b1⟩
    have z1 := Lib.hid (K.below b1 z0.out)
    have B1 := Lib.hid (bthen (Joins.below_alloc1 w _) b1)
    clear b1 d0
    go_wp2_with (with_reducible refine storeF rfl _ _ rfl w.heap.size rfl rfl z1.out ?_)
    (try simp only [Exit.inBlock, Exit.then])
    refine bodyPost_ret (v := .tuple #[.agg #[.int .i64 0, .int .i64 0, .int .i64 0, .int .i64 0, .int .i64 0, .int .i64 0, .int .i64 0, .int .i64 0, .int .i64 0, .int .i64 0, .int .i64 0, .int .i64 0, .int .i64 0, .int .i64 0, .int .i64 0, .int .i64 0, .int .i64 0, .slice none 0 0, .slice none 0 0], .slice none 0 0, .int .i64 5]) ?_ rfl (frOut_no H.out (by omega) (K.setRow_below B1.out (Nat.le_refl _) _))
    exact K.resCell3 Try.results25 _ _ _ w.heap.size _ rfl (run_loadVar_row _ _ 31 31 _ (0, 0) _ (setRow_heap _ _ _ _ _ _ z1.out) Try.underlying31 rfl info_four)
end Go.Proofs.Ytekdfffjlcikeaa

namespace Go.Proofs.Ytekdfffjlcikeaa
open Go.RowKit

section
variable {o : Oper} {a : Act} {w : World} {K : Act → World → Prop} {Q : Exit → Act → World → Prop}
theorem t_idx1 (t g p n c : Nat) (ho : o.op = .indexAddr 24 (.tmp t) (.const (.int .i64 1))) (ht : a.eval (.tmp t) = .slice (some ⟨g, p, none⟩) n c) (hj : (1 : Int) < (n : Int)) (hK : K (a.put o.dst (.pointer (some ⟨g, p + 1, none⟩))) w) : o.wp Try.prog a w K Q := by
  unfold Oper.wp execOp
  simp only [ho, ht, show ∀ v, a.eval (.const v) = v from fun _ => rfl]
  go_simp
  exact hK
theorem t_idx8 (t g p n c : Nat) (ho : o.op = .indexAddr 24 (.tmp t) (.const (.int .i64 8))) (ht : a.eval (.tmp t) = .slice (some ⟨g, p, none⟩) n c) (hj : (8 : Int) < (n : Int)) (hK : K (a.put o.dst (.pointer (some ⟨g, p + 8, none⟩))) w) : o.wp Try.prog a w K Q := by
  unfold Oper.wp execOp
  simp only [ho, ht, show ∀ v, a.eval (.const v) = v from fun _ => rfl]
  go_simp
  exact hK
theorem t_idx9 (t g p n c : Nat) (ho : o.op = .indexAddr 24 (.tmp t) (.const (.int .i64 9))) (ht : a.eval (.tmp t) = .slice (some ⟨g, p, none⟩) n c) (hj : (9 : Int) < (n : Int)) (hK : K (a.put o.dst (.pointer (some ⟨g, p + 9, none⟩))) w) : o.wp Try.prog a w K Q := by
  unfold Oper.wp execOp
  simp only [ho, ht, show ∀ v, a.eval (.const v) = v from fun _ => rfl]
  go_simp
  exact hK
theorem t_loadU (t g j : Nat) (v : Value) (ho : o.op = .load 5 (.tmp t)) (ht : a.eval (.tmp t) = .pointer (some ⟨g, j, none⟩)) (hc : w.cell? ⟨g, j, none⟩ = some v) (hK : K (a.put o.dst v) w) : o.wp Try.prog a w K Q := by
  unfold Oper.wp execOp
  simp only [ho, ht]
  go_simp
  exact hK
theorem t_conv (t v : Nat) (ho : o.op = .convert 5 3 (.tmp t)) (ht : a.eval (.tmp t) = .int .u8 (v : Int)) (hv : v < 256) (hK : K (a.put o.dst (.int .i64 (v : Int))) w) : o.wp Try.prog a w K Q := by
  have e : IntKind.i64.wrap (v : Int) = (v : Int) := by rw [IntKind.wrap_i64]; omega
  unfold Oper.wp execOp
  simp only [ho, ht]
  go_simp
  exact hK
theorem t_quo4 (t v : Nat) (ho : o.op = .binOp .quo 3 (.tmp t) (.const (.int .i64 4)) 3) (ht : a.eval (.tmp t) = .int .i64 (v : Int)) (hv : v < 256) (hK : K (a.put o.dst (.int .i64 ((v : Int) / 4))) w) : o.wp Try.prog a w K Q := by
  have e : IntKind.i64.wrap ((v : Int) / 4) = (v : Int) / 4 := by rw [IntKind.wrap_i64]; omega
  unfold Oper.wp execOp
  simp only [ho, ht, show ∀ v, a.eval (.const v) = v from fun _ => rfl]
  go_simp
  exact hK
theorem t_rem4 (t v : Nat) (ho : o.op = .binOp .rem 3 (.tmp t) (.const (.int .i64 4)) 3) (ht : a.eval (.tmp t) = .int .i64 (v : Int)) (hK : K (a.put o.dst (.int .i64 ((v : Int) % 4))) w) : o.wp Try.prog a w K Q := by
  unfold Oper.wp execOp
  simp only [ho, ht, show ∀ v, a.eval (.const v) = v from fun _ => rfl]
  go_simp
  exact hK
theorem t_build (t0 t1 t5 t6 : Nat) (x0 x1 x5 x6 : Int) (ho : o.op = .build 31 #[(0, .tmp t0), (1, .tmp t1), (5, .tmp t5), (6, .tmp t6)]) (h0 : a.eval (.tmp t0) = .int .i64 x0) (h1 : a.eval (.tmp t1) = .int .i64 x1) (h5 : a.eval (.tmp t5) = .int .i64 x5) (h6 : a.eval (.tmp t6) = .int .i64 x6)
    (hK : K (a.put o.dst (.agg #[.int .i64 x0, .int .i64 x1, .int .i64 0, .int .i64 0, .int .i64 0, .int .i64 x5, .int .i64 x6, .int .i64 0, .int .i64 0, .int .i64 0, .int .i64 0, .int .i64 0, .int .i64 0, .int .i64 0, .int .i64 0, .int .i64 0, .int .i64 0, .slice none 0 0, .slice none 0 0])) w) : o.wp Try.prog a w K Q := by
  unfold Oper.wp execOp
  simp only [ho, List.map_toArray, List.map_cons, List.map_nil, h0, h1, h5, h6]
  go_simp
  exact hK
theorem t_alloc (ho : o.op = .alloc 31) (hK : K (a.put o.dst (.pointer (some ⟨w.heap.size, 0, none⟩))) (w.alloc (.cells #[.int .i64 0, .int .i64 0, .int .i64 0, .int .i64 0, .int .i64 0, .int .i64 0, .int .i64 0, .int .i64 0, .int .i64 0, .int .i64 0, .int .i64 0, .int .i64 0, .int .i64 0, .int .i64 0, .int .i64 0, .int .i64 0, .int .i64 0, .slice none 0 0, .slice none 0 0] 31))) : o.wp Try.prog a w K Q := by
  unfold Oper.wp execOp
  simp only [ho]
  go_simp
  exact hK
theorem t_mk0 (ho : o.op = .buildSlice 24 0 #[]) (hK : K (a.put o.dst (.slice (some ⟨w.heap.size, 0, none⟩) 0 0)) (w.alloc (.cells #[] 5))) : o.wp Try.prog a w K Q := by
  unfold Oper.wp execOp
  simp only [ho]
  go_simp
  exact hK
theorem t_cut (t s : Nat) (u v x : Value) (ho : o.op = .slice 24 (.tmp t) (some (.tmp s)) none none) (ht : a.eval (.tmp t) = u) (hs : a.eval (.tmp s) = v) (h : ∀ w, (Instr.sliceAt 24 u (some v) none none).run Try.prog w = .ok x w) (hK : K (a.put o.dst x) w) : o.wp Try.prog a w K Q := by
  unfold Oper.wp execOp
  simp only [ho, Option.map, ht, hs, Sem.run_bind, Sem.run_pure, h, Result.andThen_ok]
  exact hK
end

/-- What the operations of the region leave that reads four bytes: all but the new variable. -/
def val13 (gg oo n c b1 v8 v9 : Nat) : Nat → Value
  | 1 | 6 => .pointer (some ⟨gg, oo + 1, none⟩)
  | 11 => .pointer (some ⟨gg, oo + 8, none⟩)
  | 15 => .pointer (some ⟨gg, oo + 9, none⟩)
  | 2 | 7 => .int .u8 (b1 : Int)
  | 12 => .int .u8 (v8 : Int)
  | 16 => .int .u8 (v9 : Int)
  | 3 | 8 => .int .i64 (b1 : Int)
  | 13 => .int .i64 (v8 : Int)
  | 17 => .int .i64 (v9 : Int)
  | 4 => .int .i64 ((b1 : Int) / 4)
  | 9 => .int .i64 ((b1 : Int) % 4)
  | 18 => .agg #[.int .i64 ((b1 : Int) / 4), .int .i64 ((b1 : Int) % 4), .int .i64 0, .int .i64 0, .int .i64 0, .int .i64 (v8 : Int), .int .i64 (v9 : Int), .int .i64 0, .int .i64 0, .int .i64 0, .int .i64 0, .int .i64 0, .int .i64 0, .int .i64 0, .int .i64 0, .int .i64 0, .int .i64 0, .slice none 0 0, .slice none 0 0]
  | _ => (.slice (some ⟨gg, oo, none⟩) n c)
def G13 (gg oo n c b1 v8 v9 base j m : Nat) (w : World) (v : Value) : Prop :=
  if j = 19 then ∃ b, v = .pointer (some ⟨b, 0, none⟩) ∧ base ≤ b ∧ (m ≤ 1 → w.heap[b]? = some (.cells #[.int .i64 0, .int .i64 0, .int .i64 0, .int .i64 0, .int .i64 0, .int .i64 0, .int .i64 0, .int .i64 0, .int .i64 0, .int .i64 0, .int .i64 0, .int .i64 0, .int .i64 0, .int .i64 0, .int .i64 0, .int .i64 0, .int .i64 0, .slice none 0 0, .slice none 0 0] 31 (0, 0))) ∧ (2 ≤ m → w.heap[b]? = some (.cells #[.int .i64 ((b1 : Int) / 4), .int .i64 ((b1 : Int) % 4), .int .i64 0, .int .i64 0, .int .i64 0, .int .i64 (v8 : Int), .int .i64 (v9 : Int), .int .i64 0, .int .i64 0, .int .i64 0, .int .i64 0, .int .i64 0, .int .i64 0, .int .i64 0, .int .i64 0, .int .i64 0, .int .i64 0, .slice none 0 0, .slice none 0 0] 31 (0, 0)))
  else if j = 20 then True else v = val13 gg oo n c b1 v8 v9 j
theorem g13_on {gg oo n c b1 v8 v9 base i m m' : Nat} {w w' : World} {u : Value} (hm : m' = m ∨ i ≠ 19) (hb : Below w.heap.size w w') (h : G13 gg oo n c b1 v8 v9 base i m w u) : G13 gg oo n c b1 v8 v9 base i m' w' u := by
  unfold G13 at *
  split
  · rename_i h1
    rw [if_pos h1] at h
    obtain rfl : m' = m := by omega
    obtain ⟨b, e, l, x, y⟩ := h
    exact ⟨b, e, l, fun k => K.below hb (x k), fun k => K.below hb (y k)⟩
  · rename_i h1
    rw [if_neg h1] at h
    exact h

/-- What the operations of the last region leave. -/
def G25 (fd : Value) (gg oo n c t rl : Nat) (S25 : Option Addr) (base : Nat) (rs : List UInt8) (j m : Nat) (w : World) (v : Value) : Prop :=
  if j = 1 then ∃ b', v = .slice (some ⟨b', 0, none⟩) 0 0 ∧ (m ≤ 1 → w.ownsRow base 5 1 (.slice (some ⟨b', 0, none⟩) 0 0) 0 (cellsOf []))
  else if j = 5 then 1 < m ∧ ∃ E k, v = .slice E rl k ∧ w.ownsRow base 5 1 (.slice E rl k) rl (cellsOf rs)
  else if j = 7 then 3 < m ∧ ∃ E k, v = .slice E rl k ∧ w.ownsRow base 5 1 (.slice E rl k) rl (cellsOf rs)
  else if j = 0 then v = fd
  else if j = 2 then v = (.slice (some ⟨gg, oo, none⟩) n c)
  else if j = 3 then v = .int .i64 (t : Int)
  else if j = 4 then v = .slice S25 rl (c - t)
  else if j = 8 then v = .int .i64 0
  else True
theorem g25_on {fd : Value} {gg oo n c t rl : Nat} {S25 : Option Addr} {base : Nat} {rs : List UInt8} {i m m' : Nat} {w w' : World} {u : Value} (hm : m' = m ∨ m' = m + 1) (ho : ∀ v k xs, w.ownsRow base 5 1 v k xs → w'.ownsRow base 5 1 v k xs) (h : G25 fd gg oo n c t rl S25 base rs i m w u) : G25 fd gg oo n c t rl S25 base rs i m' w' u := by
  unfold G25 at *
  split
  · rename_i h1
    rw [if_pos h1] at h
    obtain ⟨b', e, o⟩ := h
    exact ⟨b', e, fun k => ho _ _ _ (o (by omega))⟩
  · rename_i h1
    rw [if_neg h1] at h
    split
    · rename_i h2
      rw [if_pos h2] at h
      obtain ⟨l, E, k, e, o⟩ := h
      exact ⟨by omega, E, k, e, ho _ _ _ o⟩
    · rename_i h2
      rw [if_neg h2] at h
      split
      · rename_i h3
        rw [if_pos h3] at h
        obtain ⟨l, E, k, e, o⟩ := h
        exact ⟨by omega, E, k, e, ho _ _ _ o⟩
      · rename_i h3
        rw [if_neg h3] at h
        exact h
theorem g25_app {fd : Value} {gg oo n c t rl : Nat} {S25 : Option Addr} {base : Nat} {rs : List UInt8} {i : Nat} {w w' : World} {u : Value} (hi : i ≠ 5) (h : G25 fd gg oo n c t rl S25 base rs i 1 w u) : G25 fd gg oo n c t rl S25 base rs i 2 w' u := by
  unfold G25 at *
  split
  · rename_i h1
    rw [if_pos h1] at h
    obtain ⟨b', e, o⟩ := h
    exact ⟨b', e, fun k => absurd k (by decide)⟩
  · rename_i h1
    rw [if_neg h1, if_neg hi] at h
    split
    · rename_i h3
      rw [if_pos h3] at h
      exact absurd h.1 (by decide)
    · rename_i h3
      rw [if_neg h3] at h
      exact h
/-- What stands while the last region runs: m links of its chain are done. -/
structure IS25 (fr : Array Value) (A8 A9 : Option Addr) (p c8 q c9 : Nat) (os ds : List UInt8) (b r base : Nat) (W : World) (m : Nat) (w : World) : Prop where
  below : Below W.heap.size W w
  sz : base ≤ w.heap.size
  row : w.heap[b]? = some (.cells fr 31 (0, 0))
  ownA : w.ownsRow (b + 1) 5 1 (.slice A8 p c8) p (cellsOf os)
  ownD : w.ownsRow (b + 1) 5 1 (.slice A9 q c9) q (cellsOf ds)
  res : m ≤ 2 → w.heap[r]? = some (.cells #[.int .i64 0, .int .i64 0, .int .i64 0, .int .i64 0, .int .i64 0, .int .i64 0, .int .i64 0, .int .i64 0, .int .i64 0, .int .i64 0, .int .i64 0, .int .i64 0, .int .i64 0, .int .i64 0, .int .i64 0, .int .i64 0, .int .i64 0, .slice none 0 0, .slice none 0 0] 31 (0, 0))
  done : 3 ≤ m → w.heap[r]? = some (.cells fr 31 (0, 0))

set_option maxRecDepth 100000 in
set_option maxHeartbeats 8000000 in
theorem readS_rest (a : Addr) (n c : Nat) (bs : List UInt8) (w : World) (hr : RB w w.heap.size (some a) bs) (hl : bs.length = n) (hs : n ≤ 1600) (hn : 20 ≤ n) (hc : n ≤ c) (b0 : Nat) (e0 : num bs 0 1 = b0) (hv : (b0 : Int) / 16 = 4) (hd : Nat) (ed : 4 * (b0 % 16) = hd) (hh : 20 ≤ hd ∧ hd ≤ n)
    (b1 t v4 v6 v8 v9 v10 v12 v16 : Nat) (e1 : num bs 1 1 = b1) (et : num bs 2 2 = t) (ht : hd ≤ t ∧ t ≤ 1500 ∧ t ≤ n) (e4 : num bs 4 2 = v4) (e6 : num bs 6 2 = v6) (e8 : num bs 8 1 = v8) (e9 : num bs 9 1 = v9) (e10 : num bs 10 2 = v10) (e12 : num bs 12 4 = v12) (e16 : num bs 16 4 = v16)
    (p q rl : Nat) (ep : 20 + p = hd) (eq : hd + q = t) (er : t + rl = n) (os ds rs : List UInt8) (eos : (bs.drop 20).take p = os) (eds : (bs.drop hd).take q = ds) (ers : bs.drop t = rs)
    (H6 : ¬ (v10 : Int) = (⟨(b1 : Int) / 4, (b1 : Int) % 4, v4, (v6 : Int) / 8192, (v6 : Int) % 8192, v8, v9, ⟨4, 0, 0, 0, v12⟩, ⟨4, 0, 0, 0, v16⟩⟩ : Fh).sum os q → frc bs = 6) (H0 : (v10 : Int) = (⟨(b1 : Int) / 4, (b1 : Int) % 4, v4, (v6 : Int) / 8192, (v6 : Int) % 8192, v8, v9, ⟨4, 0, 0, 0, v12⟩, ⟨4, 0, 0, 0, v16⟩⟩ : Fh).sum os q → frc bs = 0) (ex : fx0 bs = (⟨(b1 : Int) / 4, (b1 : Int) % 4, v4, (v6 : Int) / 8192, (v6 : Int) % 8192, v8, v9, ⟨4, 0, 0, 0, v12⟩, ⟨4, 0, 0, 0, v16⟩⟩ : Fh)) (eo : fo0 bs = os) (eb : fb0 bs = ds) : Calls Try.prog 25 #[.slice (some a) n c] w (FROut bs w) := by
  obtain ⟨gg, oo, ea, hg, c0⟩ := hr.at_ (k := 0) (by omega)
  injection ea with ea
  subst ea
  rw [← num_one bs 0 (by omega), e0, Nat.add_zero] at c0
  obtain ⟨g1, o1, ea1, _, c1⟩ := hr.at_ (k := 1) (by omega)
  obtain ⟨rfl, rfl⟩ : gg = g1 ∧ oo = o1 := by injection ea1 with ea1; injection ea1 with h1 h2; exact ⟨h1, h2⟩
  obtain ⟨g1, o1, ea8, _, c8⟩ := hr.at_ (k := 8) (by omega)
  obtain ⟨rfl, rfl⟩ : gg = g1 ∧ oo = o1 := by injection ea8 with ea1; injection ea1 with h1 h2; exact ⟨h1, h2⟩
  obtain ⟨g1, o1, ea9, _, c9⟩ := hr.at_ (k := 9) (by omega)
  obtain ⟨rfl, rfl⟩ : gg = g1 ∧ oo = o1 := by injection ea9 with ea1; injection ea1 with h1 h2; exact ⟨h1, h2⟩
  rw [← num_one bs 1 (by omega), e1] at c1
  rw [← num_one bs 8 (by omega), e8] at c8
  rw [← num_one bs 9 (by omega), e9] at c9
  obtain ⟨S12, S12h⟩ : ∃ S : Option Addr, (if c = 12 then (some ⟨gg, oo, none⟩ : Option Addr) else (some (⟨gg, oo, none⟩ : Addr)).map (·.add (12 * 1))) = S := ⟨_, rfl⟩
  obtain ⟨S16, S16h⟩ : ∃ S : Option Addr, (if c = 16 then (some ⟨gg, oo, none⟩ : Option Addr) else (some (⟨gg, oo, none⟩ : Addr)).map (·.add (16 * 1))) = S := ⟨_, rfl⟩
  obtain ⟨S20, S20h⟩ : ∃ S : Option Addr, (if c = 20 then (some ⟨gg, oo, none⟩ : Option Addr) else (some (⟨gg, oo, none⟩ : Addr)).map (·.add (20 * 1))) = S := ⟨_, rfl⟩
  obtain ⟨S21, S21h⟩ : ∃ S : Option Addr, (if c = hd then (some ⟨gg, oo, none⟩ : Option Addr) else (some (⟨gg, oo, none⟩ : Addr)).map (·.add (hd * 1))) = S := ⟨_, rfl⟩
  obtain ⟨S25, S25h⟩ : ∃ S : Option Addr, (if c = t then (some ⟨gg, oo, none⟩ : Option Addr) else (some (⟨gg, oo, none⟩ : Addr)).map (·.add (t * 1))) = S := ⟨_, rfl⟩
  have S25h := Lib.hid S25h
  have S12h := Lib.hid S12h
  have S16h := Lib.hid S16h
  have S20h := Lib.hid S20h
  have S21h := Lib.hid S21h
  have l12 : ((bs.drop 12).take 4).length = 4 := by rw [List.length_take, List.length_drop]; omega
  have l16 : ((bs.drop 16).take 4).length = 4 := by rw [List.length_take, List.length_drop]; omega
  have V12 := Lib.hid (And.intro (show ofA ((bs.drop 12).take 4) = ⟨4, 0, 0, 0, (v12 : Int)⟩ by rw [ofA_four l12, ← e12]; rfl) (show okA ((bs.drop 12).take 4) = true by simp only [okA, l12]; rfl))
  have V16 := Lib.hid (And.intro (show ofA ((bs.drop 16).take 4) = ⟨4, 0, 0, 0, (v16 : Int)⟩ by rw [ofA_four l16, ← e16]; rfl) (show okA ((bs.drop 16).take 4) = true by simp only [okA, l16]; rfl))
  have LN := Lib.hid (show os.length = p ∧ ds.length = q ∧ rs.length = rl from ⟨by rw [← eos, List.length_take, List.length_drop]; omega, by rw [← eds, List.length_take, List.length_drop]; omega, by rw [← ers, List.length_drop]; omega⟩)
  clear l12 l16
  have hb0 : b0 < 256 := by rw [← e0]; exact num_lt1 bs 0
  have hb1 : b1 < 256 := by rw [← e1]; exact num_lt1 bs 1
  have hb8 : v8 < 256 := by rw [← e8]; exact num_lt1 bs 8
  have hb9 : v9 < 256 := by rw [← e9]; exact num_lt1 bs 9
  have hb6 : v6 < 65536 := by rw [← e6]; exact num_lt2 bs 6
  have d0 := cell_on (Joins.below_alloc1 w (.cells #[.int .i64 0, .int .i64 0, .int .i64 0, .int .i64 0, .int .i64 0, .int .i64 0, .int .i64 0, .int .i64 0, .int .i64 0, .int .i64 0, .int .i64 0, .int .i64 0, .int .i64 0, .int .i64 0, .int .i64 0, .int .i64 0, .int .i64 0, .slice none 0 0, .slice none 0 0] 31)) c0
  have z0 := Lib.hid (K.new w (.cells #[.int .i64 0, .int .i64 0, .int .i64 0, .int .i64 0, .int .i64 0, .int .i64 0, .int .i64 0, .int .i64 0, .int .i64 0, .int .i64 0, .int .i64 0, .int .i64 0, .int .i64 0, .int .i64 0, .int .i64 0, .int .i64 0, .int .i64 0, .slice none 0 0, .slice none 0 0] 31))
  have hwd2 : 4 * ((b0 : Int) % 16) = (hd : Int) := by omega
  have R0 := Lib.hid hr
  have C1 := Lib.hid (And.intro c1 (And.intro c8 c9))
  have E := Lib.hid (And.intro et (And.intro e4 (And.intro e6 (And.intro e10 (And.intro e12 e16)))))
  have EP := Lib.hid (And.intro ep (And.intro eq er))
  have ES := Lib.hid (And.intro eos (And.intro eds ers))
  have HL := Lib.hid hl
  have HF := Lib.hid (And.intro H6 H0)
  have F0 := Lib.hid (fun h0 (w' : World) (A D E : Option Addr) (c d g : Nat) oA oD oE h1 h2 h3 hb => frOut_yes (os := os) (ds := ds) (rs := rs) (n := p) (m := q) (l := rl) (w := w) (w' := w') (A := A) (D := D) (E := E) (c := c) (d := d) (g := g) h0 ex eo eb (by rw [et]; exact ers) (by rw [← eos, List.length_take, List.length_drop]; omega) (by rw [← eds, List.length_take, List.length_drop]; omega) (by rw [← ers, List.length_drop]; omega) oA oD oE h1 h2 h3 hb)
  have hgw : gg < w.heap.size := hg
  clear hr hl e0 e1 et e4 e6 e8 e9 e10 e12 e16 ep eq er eos eds ers H6 H0 ex eo eb ed c0 c1 c8 c9 ea1 ea8 ea9 hg
  obtain ⟨hh1, hh2⟩ := hh
  obtain ⟨ht0, ht1, ht2⟩ := ht
  go_enter Try.func25, Try.ntmps25
  go_wp2_with fail
  refine Calls.mono (be16L (some ⟨gg, oo, none⟩) n c bs 2 t _ ((R0.out.below (Joins.below_alloc1 w _)).more (by simp)) HL.out (by omega) (by omega) E.out.1) ?_
  rintro e w1 ⟨rfl, b1'⟩
  have z1 := Lib.hid (K.below b1' z0.out)
  have B1 := Lib.hid (bthen (Joins.below_alloc1 w _) b1')
  have CC := Lib.hid (And.intro (B1.out.cell (p := ⟨gg, oo + 1, none⟩) hgw |>.trans C1.out.1) (And.intro (B1.out.cell (p := ⟨gg, oo + 8, none⟩) hgw |>.trans C1.out.2.1) (B1.out.cell (p := ⟨gg, oo + 9, none⟩) hgw |>.trans C1.out.2.2)))
  have lw := B1.out.size
  clear b1' d0
  go_wp2_with fail
  refine wp_region_stage2 (by kernel_rfl) (G13 gg oo n c b1 v8 v9 w1.heap.size) [0] [19, 20] (fun _ v => Below w1.heap.size w1 v) 140 (by kernel_rfl) (by kernel_rfl) rfl ⟨rfl, rfl, rfl, Nat.le_refl _, fun _ _ => rfl⟩ ?_ ?_
  · intro j o ho m a' v K' hx hnd hm hI hK
    have cd : v.cell? ⟨gg, oo + 1, none⟩ = some (.int .u8 (b1 : Int)) ∧ v.cell? ⟨gg, oo + 8, none⟩ = some (.int .u8 (v8 : Int)) ∧ v.cell? ⟨gg, oo + 9, none⟩ = some (.int .u8 (v9 : Int)) :=
      ⟨(hI.cell (p := ⟨gg, oo + 1, none⟩) (by show gg < _; omega)).trans CC.out.1, (hI.cell (p := ⟨gg, oo + 8, none⟩) (by show gg < _; omega)).trans CC.out.2.1, (hI.cell (p := ⟨gg, oo + 9, none⟩) (by show gg < _; omega)).trans CC.out.2.2⟩
    match j, ho with
    | 0, ho =>
      obtain rfl := Option.some.inj ho
      exact s_move 0 _ rfl (out_of hx 0 (by simp) rfl) (hK _ _ rfl (fun _ _ _ _ _ _ h => h) hI)
    | 1, ho =>
      obtain rfl := Option.some.inj ho
      have h1 : a'.eval (.tmp 61) = (.slice (some ⟨gg, oo, none⟩) n c) := (need_of (Γ := fun j => (G13 gg oo n c b1 v8 v9 w1.heap.size) j m) (w := v) hnd 0 61 (by kernel_rfl) :)
      exact t_idx1 _ _ _ _ _ rfl h1 (by omega) (hK _ _ rfl (fun _ _ _ _ _ _ h => h) hI)
    | 2, ho =>
      obtain rfl := Option.some.inj ho
      have h1 : a'.eval (.tmp 62) = .pointer (some ⟨gg, oo + 1, none⟩) := (need_of (Γ := fun j => (G13 gg oo n c b1 v8 v9 w1.heap.size) j m) (w := v) hnd 1 62 (by kernel_rfl) :)
      exact t_loadU _ _ _ _ rfl h1 cd.1 (hK _ _ rfl (fun _ _ _ _ _ _ h => h) hI)
    | 3, ho =>
      obtain rfl := Option.some.inj ho
      have h1 : a'.eval (.tmp 63) = .int .u8 (b1 : Int) := (need_of (Γ := fun j => (G13 gg oo n c b1 v8 v9 w1.heap.size) j m) (w := v) hnd 2 63 (by kernel_rfl) :)
      exact t_conv _ _ rfl h1 (by omega) (hK _ _ rfl (fun _ _ _ _ _ _ h => h) hI)
    | 4, ho =>
      obtain rfl := Option.some.inj ho
      have h1 : a'.eval (.tmp 64) = .int .i64 (b1 : Int) := (need_of (Γ := fun j => (G13 gg oo n c b1 v8 v9 w1.heap.size) j m) (w := v) hnd 3 64 (by kernel_rfl) :)
      exact t_quo4 _ _ rfl h1 (by omega) (hK _ _ rfl (fun _ _ _ _ _ _ h => h) hI)
    | 5, ho =>
      obtain rfl := Option.some.inj ho
      exact s_move 0 _ rfl (out_of hx 0 (by simp) rfl) (hK _ _ rfl (fun _ _ _ _ _ _ h => h) hI)
    | 6, ho =>
      obtain rfl := Option.some.inj ho
      have h1 : a'.eval (.tmp 66) = (.slice (some ⟨gg, oo, none⟩) n c) := (need_of (Γ := fun j => (G13 gg oo n c b1 v8 v9 w1.heap.size) j m) (w := v) hnd 5 66 (by kernel_rfl) :)
      exact t_idx1 _ _ _ _ _ rfl h1 (by omega) (hK _ _ rfl (fun _ _ _ _ _ _ h => h) hI)
    | 7, ho =>
      obtain rfl := Option.some.inj ho
      have h1 : a'.eval (.tmp 67) = .pointer (some ⟨gg, oo + 1, none⟩) := (need_of (Γ := fun j => (G13 gg oo n c b1 v8 v9 w1.heap.size) j m) (w := v) hnd 6 67 (by kernel_rfl) :)
      exact t_loadU _ _ _ _ rfl h1 cd.1 (hK _ _ rfl (fun _ _ _ _ _ _ h => h) hI)
    | 8, ho =>
      obtain rfl := Option.some.inj ho
      have h1 : a'.eval (.tmp 68) = .int .u8 (b1 : Int) := (need_of (Γ := fun j => (G13 gg oo n c b1 v8 v9 w1.heap.size) j m) (w := v) hnd 7 68 (by kernel_rfl) :)
      exact t_conv _ _ rfl h1 (by omega) (hK _ _ rfl (fun _ _ _ _ _ _ h => h) hI)
    | 9, ho =>
      obtain rfl := Option.some.inj ho
      have h1 : a'.eval (.tmp 69) = .int .i64 (b1 : Int) := (need_of (Γ := fun j => (G13 gg oo n c b1 v8 v9 w1.heap.size) j m) (w := v) hnd 8 69 (by kernel_rfl) :)
      exact t_rem4 _ _ rfl h1 (hK _ _ rfl (fun _ _ _ _ _ _ h => h) hI)
    | 10, ho =>
      obtain rfl := Option.some.inj ho
      exact s_move 0 _ rfl (out_of hx 0 (by simp) rfl) (hK _ _ rfl (fun _ _ _ _ _ _ h => h) hI)
    | 11, ho =>
      obtain rfl := Option.some.inj ho
      have h1 : a'.eval (.tmp 71) = (.slice (some ⟨gg, oo, none⟩) n c) := (need_of (Γ := fun j => (G13 gg oo n c b1 v8 v9 w1.heap.size) j m) (w := v) hnd 10 71 (by kernel_rfl) :)
      exact t_idx8 _ _ _ _ _ rfl h1 (by omega) (hK _ _ rfl (fun _ _ _ _ _ _ h => h) hI)
    | 12, ho =>
      obtain rfl := Option.some.inj ho
      have h1 : a'.eval (.tmp 72) = .pointer (some ⟨gg, oo + 8, none⟩) := (need_of (Γ := fun j => (G13 gg oo n c b1 v8 v9 w1.heap.size) j m) (w := v) hnd 11 72 (by kernel_rfl) :)
      exact t_loadU _ _ _ _ rfl h1 cd.2.1 (hK _ _ rfl (fun _ _ _ _ _ _ h => h) hI)
    | 13, ho =>
      obtain rfl := Option.some.inj ho
      have h1 : a'.eval (.tmp 73) = .int .u8 (v8 : Int) := (need_of (Γ := fun j => (G13 gg oo n c b1 v8 v9 w1.heap.size) j m) (w := v) hnd 12 73 (by kernel_rfl) :)
      exact t_conv _ _ rfl h1 (by omega) (hK _ _ rfl (fun _ _ _ _ _ _ h => h) hI)
    | 14, ho =>
      obtain rfl := Option.some.inj ho
      exact s_move 0 _ rfl (out_of hx 0 (by simp) rfl) (hK _ _ rfl (fun _ _ _ _ _ _ h => h) hI)
    | 15, ho =>
      obtain rfl := Option.some.inj ho
      have h1 : a'.eval (.tmp 75) = (.slice (some ⟨gg, oo, none⟩) n c) := (need_of (Γ := fun j => (G13 gg oo n c b1 v8 v9 w1.heap.size) j m) (w := v) hnd 14 75 (by kernel_rfl) :)
      exact t_idx9 _ _ _ _ _ rfl h1 (by omega) (hK _ _ rfl (fun _ _ _ _ _ _ h => h) hI)
    | 16, ho =>
      obtain rfl := Option.some.inj ho
      have h1 : a'.eval (.tmp 76) = .pointer (some ⟨gg, oo + 9, none⟩) := (need_of (Γ := fun j => (G13 gg oo n c b1 v8 v9 w1.heap.size) j m) (w := v) hnd 15 76 (by kernel_rfl) :)
      exact t_loadU _ _ _ _ rfl h1 cd.2.2 (hK _ _ rfl (fun _ _ _ _ _ _ h => h) hI)
    | 17, ho =>
      obtain rfl := Option.some.inj ho
      have h1 : a'.eval (.tmp 77) = .int .u8 (v9 : Int) := (need_of (Γ := fun j => (G13 gg oo n c b1 v8 v9 w1.heap.size) j m) (w := v) hnd 16 77 (by kernel_rfl) :)
      exact t_conv _ _ rfl h1 (by omega) (hK _ _ rfl (fun _ _ _ _ _ _ h => h) hI)
    | 18, ho =>
      obtain rfl := Option.some.inj ho
      have h0 : a'.eval (.tmp 65) = .int .i64 ((b1 : Int) / 4) := (need_of (Γ := fun j => (G13 gg oo n c b1 v8 v9 w1.heap.size) j m) (w := v) hnd 4 65 (by kernel_rfl) :)
      have h1 : a'.eval (.tmp 70) = .int .i64 ((b1 : Int) % 4) := (need_of (Γ := fun j => (G13 gg oo n c b1 v8 v9 w1.heap.size) j m) (w := v) hnd 9 70 (by kernel_rfl) :)
      have h5 : a'.eval (.tmp 74) = .int .i64 (v8 : Int) := (need_of (Γ := fun j => (G13 gg oo n c b1 v8 v9 w1.heap.size) j m) (w := v) hnd 13 74 (by kernel_rfl) :)
      have h6 : a'.eval (.tmp 78) = .int .i64 (v9 : Int) := (need_of (Γ := fun j => (G13 gg oo n c b1 v8 v9 w1.heap.size) j m) (w := v) hnd 17 78 (by kernel_rfl) :)
      exact t_build _ _ _ _ _ _ _ _ rfl h0 h1 h5 h6 (hK _ _ rfl (fun _ _ _ _ _ _ h => h) hI)
    | 19, ho =>
      obtain rfl := Option.some.inj ho
      obtain rfl : 0 = m := hm 0 rfl
      exact t_alloc rfl (hK _ _ ⟨v.heap.size, rfl, hI.size, fun _ => K.new v _, fun h => absurd h (by decide)⟩ (fun i _ _ hi _ _ h => g13_on (.inr hi) (Joins.below_alloc1 v _) h) (bthen hI (Joins.below_alloc1 v _)))
    | 20, ho =>
      obtain rfl := Option.some.inj ho
      obtain rfl : 1 = m := hm 1 rfl
      obtain ⟨b, h1, lb, h2, _⟩ : ∃ b, a'.eval (.tmp 8) = .pointer (some ⟨b, 0, none⟩) ∧ w1.heap.size ≤ b ∧ ((1 : Nat) ≤ 1 → v.heap[b]? = some (.cells #[.int .i64 0, .int .i64 0, .int .i64 0, .int .i64 0, .int .i64 0, .int .i64 0, .int .i64 0, .int .i64 0, .int .i64 0, .int .i64 0, .int .i64 0, .int .i64 0, .int .i64 0, .int .i64 0, .int .i64 0, .int .i64 0, .int .i64 0, .slice none 0 0, .slice none 0 0] 31 (0, 0))) ∧ ((2 : Nat) ≤ 1 → v.heap[b]? = some (.cells #[.int .i64 ((b1 : Int) / 4), .int .i64 ((b1 : Int) % 4), .int .i64 0, .int .i64 0, .int .i64 0, .int .i64 (v8 : Int), .int .i64 (v9 : Int), .int .i64 0, .int .i64 0, .int .i64 0, .int .i64 0, .int .i64 0, .int .i64 0, .int .i64 0, .int .i64 0, .int .i64 0, .int .i64 0, .slice none 0 0, .slice none 0 0] 31 (0, 0))) := (need_of (Γ := fun j => (G13 gg oo n c b1 v8 v9 w1.heap.size) j 1) (w := v) hnd 19 8 (by kernel_rfl) :)
      have h3 : a'.eval (.tmp 79) = .agg #[.int .i64 ((b1 : Int) / 4), .int .i64 ((b1 : Int) % 4), .int .i64 0, .int .i64 0, .int .i64 0, .int .i64 (v8 : Int), .int .i64 (v9 : Int), .int .i64 0, .int .i64 0, .int .i64 0, .int .i64 0, .int .i64 0, .int .i64 0, .int .i64 0, .int .i64 0, .int .i64 0, .int .i64 0, .slice none 0 0, .slice none 0 0] := (need_of (Γ := fun j => (G13 gg oo n c b1 v8 v9 w1.heap.size) j 1) (w := v) hnd 18 79 (by kernel_rfl) :)
      refine wp_store_row 31 _ _ rfl b _ h1 h3 _ _ (h2 (by decide)) info_four rfl (by simp [Value.oneCell']) (hK _ _ trivial ?_ (K.setRow_below hI lb _))
      intro i oi d hi hoi hd h
      by_cases h19 : i = 19
      · subst h19
        obtain rfl := Option.some.inj hoi
        obtain rfl := Option.some.inj hd
        exact ⟨b, h1, lb, fun h => absurd h (by decide), fun _ => setRow_heap _ _ _ _ _ _ (h2 (by decide))⟩
      · unfold G13 at *
        rw [if_neg h19] at *
        exact h
    | j + 21, ho => simp at ho
  · intro a' w3 hsz hdf hout hrest hG hI
    obtain ⟨b, g8, lb, _, hrow⟩ : ∃ b, a'.tmps.getD 8 undef = .pointer (some ⟨b, 0, none⟩) ∧ w1.heap.size ≤ b ∧ ((2 : Nat) ≤ 1 → w3.heap[b]? = some (.cells #[.int .i64 0, .int .i64 0, .int .i64 0, .int .i64 0, .int .i64 0, .int .i64 0, .int .i64 0, .int .i64 0, .int .i64 0, .int .i64 0, .int .i64 0, .int .i64 0, .int .i64 0, .int .i64 0, .int .i64 0, .int .i64 0, .int .i64 0, .slice none 0 0, .slice none 0 0] 31 (0, 0))) ∧ ((2 : Nat) ≤ 2 → w3.heap[b]? = some (.cells #[.int .i64 ((b1 : Int) / 4), .int .i64 ((b1 : Int) % 4), .int .i64 0, .int .i64 0, .int .i64 0, .int .i64 (v8 : Int), .int .i64 (v9 : Int), .int .i64 0, .int .i64 0, .int .i64 0, .int .i64 0, .int .i64 0, .int .i64 0, .int .i64 0, .int .i64 0, .int .i64 0, .int .i64 0, .slice none 0 0, .slice none 0 0] 31 (0, 0))) := hG 19 _ 8 rfl rfl
    have E0 := act_eqL (n := 140) hsz hdf rfl [(61, .slice (some ⟨gg, oo, none⟩) n c), (62, .pointer (some ⟨gg, oo + 1, none⟩)), (63, .int .u8 (b1 : Int)), (64, .int .i64 (b1 : Int)), (65, .int .i64 ((b1 : Int) / 4)), (66, .slice (some ⟨gg, oo, none⟩) n c), (67, .pointer (some ⟨gg, oo + 1, none⟩)), (68, .int .u8 (b1 : Int)), (69, .int .i64 (b1 : Int)), (70, .int .i64 ((b1 : Int) % 4)), (71, .slice (some ⟨gg, oo, none⟩) n c), (72, .pointer (some ⟨gg, oo + 8, none⟩)), (73, .int .u8 (v8 : Int)), (74, .int .i64 (v8 : Int)), (75, .slice (some ⟨gg, oo, none⟩) n c), (76, .pointer (some ⟨gg, oo + 9, none⟩)), (77, .int .u8 (v9 : Int)), (78, .int .i64 (v9 : Int)), (79, .agg #[.int .i64 ((b1 : Int) / 4), .int .i64 ((b1 : Int) % 4), .int .i64 0, .int .i64 0, .int .i64 0, .int .i64 (v8 : Int), .int .i64 (v9 : Int), .int .i64 0, .int .i64 0, .int .i64 0, .int .i64 0, .int .i64 0, .int .i64 0, .int .i64 0, .int .i64 0, .int .i64 0, .int .i64 0, .slice none 0 0, .slice none 0 0]), (8, .pointer (some ⟨b, 0, none⟩))] _ rfl rfl (by
      intro p hp
      simp only [List.mem_cons, List.not_mem_nil, or_false] at hp
      rcases hp with rfl | rfl | rfl | rfl | rfl | rfl | rfl | rfl | rfl | rfl | rfl | rfl | rfl | rfl | rfl | rfl | rfl | rfl | rfl | rfl
      · exact ⟨(by decide : 61 < 140), hG 0 _ 61 rfl rfl⟩
      · exact ⟨(by decide : 62 < 140), hG 1 _ 62 rfl rfl⟩
      · exact ⟨(by decide : 63 < 140), hG 2 _ 63 rfl rfl⟩
      · exact ⟨(by decide : 64 < 140), hG 3 _ 64 rfl rfl⟩
      · exact ⟨(by decide : 65 < 140), hG 4 _ 65 rfl rfl⟩
      · exact ⟨(by decide : 66 < 140), hG 5 _ 66 rfl rfl⟩
      · exact ⟨(by decide : 67 < 140), hG 6 _ 67 rfl rfl⟩
      · exact ⟨(by decide : 68 < 140), hG 7 _ 68 rfl rfl⟩
      · exact ⟨(by decide : 69 < 140), hG 8 _ 69 rfl rfl⟩
      · exact ⟨(by decide : 70 < 140), hG 9 _ 70 rfl rfl⟩
      · exact ⟨(by decide : 71 < 140), hG 10 _ 71 rfl rfl⟩
      · exact ⟨(by decide : 72 < 140), hG 11 _ 72 rfl rfl⟩
      · exact ⟨(by decide : 73 < 140), hG 12 _ 73 rfl rfl⟩
      · exact ⟨(by decide : 74 < 140), hG 13 _ 74 rfl rfl⟩
      · exact ⟨(by decide : 75 < 140), hG 14 _ 75 rfl rfl⟩
      · exact ⟨(by decide : 76 < 140), hG 15 _ 76 rfl rfl⟩
      · exact ⟨(by decide : 77 < 140), hG 16 _ 77 rfl rfl⟩
      · exact ⟨(by decide : 78 < 140), hG 17 _ 78 rfl rfl⟩
      · exact ⟨(by decide : 79 < 140), hG 18 _ 79 rfl rfl⟩
      · exact ⟨(by decide : 8 < 140), g8⟩) (fun t ht => hrest t (fun j o hj he => by
      match j, hj with
      | 0, hj => obtain rfl := Option.some.inj hj; obtain rfl := Option.some.inj he; exact ht (61, .slice (some ⟨gg, oo, none⟩) n c) (by simp) rfl
      | 1, hj => obtain rfl := Option.some.inj hj; obtain rfl := Option.some.inj he; exact ht (62, .pointer (some ⟨gg, oo + 1, none⟩)) (by simp) rfl
      | 2, hj => obtain rfl := Option.some.inj hj; obtain rfl := Option.some.inj he; exact ht (63, .int .u8 (b1 : Int)) (by simp) rfl
      | 3, hj => obtain rfl := Option.some.inj hj; obtain rfl := Option.some.inj he; exact ht (64, .int .i64 (b1 : Int)) (by simp) rfl
      | 4, hj => obtain rfl := Option.some.inj hj; obtain rfl := Option.some.inj he; exact ht (65, .int .i64 ((b1 : Int) / 4)) (by simp) rfl
      | 5, hj => obtain rfl := Option.some.inj hj; obtain rfl := Option.some.inj he; exact ht (66, .slice (some ⟨gg, oo, none⟩) n c) (by simp) rfl
      | 6, hj => obtain rfl := Option.some.inj hj; obtain rfl := Option.some.inj he; exact ht (67, .pointer (some ⟨gg, oo + 1, none⟩)) (by simp) rfl
      | 7, hj => obtain rfl := Option.some.inj hj; obtain rfl := Option.some.inj he; exact ht (68, .int .u8 (b1 : Int)) (by simp) rfl
      | 8, hj => obtain rfl := Option.some.inj hj; obtain rfl := Option.some.inj he; exact ht (69, .int .i64 (b1 : Int)) (by simp) rfl
      | 9, hj => obtain rfl := Option.some.inj hj; obtain rfl := Option.some.inj he; exact ht (70, .int .i64 ((b1 : Int) % 4)) (by simp) rfl
      | 10, hj => obtain rfl := Option.some.inj hj; obtain rfl := Option.some.inj he; exact ht (71, .slice (some ⟨gg, oo, none⟩) n c) (by simp) rfl
      | 11, hj => obtain rfl := Option.some.inj hj; obtain rfl := Option.some.inj he; exact ht (72, .pointer (some ⟨gg, oo + 8, none⟩)) (by simp) rfl
      | 12, hj => obtain rfl := Option.some.inj hj; obtain rfl := Option.some.inj he; exact ht (73, .int .u8 (v8 : Int)) (by simp) rfl
      | 13, hj => obtain rfl := Option.some.inj hj; obtain rfl := Option.some.inj he; exact ht (74, .int .i64 (v8 : Int)) (by simp) rfl
      | 14, hj => obtain rfl := Option.some.inj hj; obtain rfl := Option.some.inj he; exact ht (75, .slice (some ⟨gg, oo, none⟩) n c) (by simp) rfl
      | 15, hj => obtain rfl := Option.some.inj hj; obtain rfl := Option.some.inj he; exact ht (76, .pointer (some ⟨gg, oo + 9, none⟩)) (by simp) rfl
      | 16, hj => obtain rfl := Option.some.inj hj; obtain rfl := Option.some.inj he; exact ht (77, .int .u8 (v9 : Int)) (by simp) rfl
      | 17, hj => obtain rfl := Option.some.inj hj; obtain rfl := Option.some.inj he; exact ht (78, .int .i64 (v9 : Int)) (by simp) rfl
      | 18, hj => obtain rfl := Option.some.inj hj; obtain rfl := Option.some.inj he; exact ht (79, .agg #[.int .i64 ((b1 : Int) / 4), .int .i64 ((b1 : Int) % 4), .int .i64 0, .int .i64 0, .int .i64 0, .int .i64 (v8 : Int), .int .i64 (v9 : Int), .int .i64 0, .int .i64 0, .int .i64 0, .int .i64 0, .int .i64 0, .int .i64 0, .int .i64 0, .int .i64 0, .int .i64 0, .int .i64 0, .slice none 0 0, .slice none 0 0]) (by simp) rfl
      | 19, hj => obtain rfl := Option.some.inj hj; obtain rfl := Option.some.inj he; exact ht (8, .pointer (some ⟨b, 0, none⟩)) (by simp) rfl
      | 20, hj => obtain rfl := Option.some.inj hj; cases he
      | j + 21, hj => simp at hj))
    rw [E0]
    clear E0 hsz hdf hout hrest hG g8
    have q3 := Lib.hid (hrow (by decide))
    have z3 := Lib.hid (K.below hI z1.out)
    have B3 := Lib.hid (bthen B1.out hI)
    have lr := K.lt z1.out
    clear hrow hI z1 B1 CC C1 z0
    simp only [List.foldl]
    go_simp
    go_wp2_with fail
    refine Calls.mono (be16L (some ⟨gg, oo, none⟩) n c bs 4 v4 _ ((R0.out.below B3.out).more B3.out.size) HL.out (by omega) (by omega) E.out.2.1) ?_
    rintro e w4 ⟨rfl, b4⟩
    have p4 := Lib.hid (K.below b4 q3.out)
    have y4 := Lib.hid (K.below b4 z3.out)
    have F4 := Lib.hid (bthen B3.out b4)
    clear b4 q3 z3 B3
    have u2 := K.cell p4.out 2 _ rfl
    have x2 := frozen_of_row _ _ 2 _ _ p4.out
    have q4 : Hid ((w4.setCell ⟨b, 2, none⟩ (.int .i64 (v4 : Int))).heap[b]? = some (.cells #[.int .i64 ((b1 : Int) / 4), .int .i64 ((b1 : Int) % 4), .int .i64 (v4 : Int), .int .i64 0, .int .i64 0, .int .i64 (v8 : Int), .int .i64 (v9 : Int), .int .i64 0, .int .i64 0, .int .i64 0, .int .i64 0, .int .i64 0, .int .i64 0, .int .i64 0, .int .i64 0, .int .i64 0, .int .i64 0, .slice none 0 0, .slice none 0 0] 31 (0, 0))) := Lib.hid (K.set (p4.out) 2 (.int .i64 (v4 : Int)))
    have z4 : Hid ((w4.setCell ⟨b, 2, none⟩ (.int .i64 (v4 : Int))).heap[w.heap.size]? = some (.cells #[.int .i64 0, .int .i64 0, .int .i64 0, .int .i64 0, .int .i64 0, .int .i64 0, .int .i64 0, .int .i64 0, .int .i64 0, .int .i64 0, .int .i64 0, .int .i64 0, .int .i64 0, .int .i64 0, .int .i64 0, .int .i64 0, .int .i64 0, .slice none 0 0, .slice none 0 0] 31 (0, 0))) := Lib.hid (K.setFrom_other [.int .i64 (v4 : Int)] 2 y4.out (show w.heap.size ≠ b by omega))
    have B4 : Hid (Below w.heap.size w (w4.setCell ⟨b, 2, none⟩ (.int .i64 (v4 : Int)))) := Lib.hid (K.setFrom_below [.int .i64 (v4 : Int)] 2 F4.out (show w.heap.size ≤ b by omega))
    go_wp2_with fail
    clear u2 x2 p4 y4 F4
    refine Calls.mono (be16L (some ⟨gg, oo, none⟩) n c bs 6 v6 _ ((R0.out.below B4.out).more B4.out.size) HL.out (by omega) (by omega) E.out.2.2.1) ?_
    rintro e w5 ⟨rfl, b5⟩
    have p5 := Lib.hid (K.below b5 q4.out)
    have y5 := Lib.hid (K.below b5 z4.out)
    have F5 := Lib.hid (bthen B4.out b5)
    clear b5 q4 z4 B4
    have u3 := K.cell p5.out 3 _ rfl
    have x3 := frozen_of_row _ _ 3 _ _ p5.out
    have u4 := K.cell p5.out 4 _ rfl
    have x4 := frozen_of_row _ _ 4 _ _ p5.out
    have q5 : Hid (((w5.setCell ⟨b, 3, none⟩ (.int .i64 ((v6 : Int) / 8192))).setCell ⟨b, 4, none⟩ (.int .i64 ((v6 : Int) % 8192))).heap[b]? = some (.cells #[.int .i64 ((b1 : Int) / 4), .int .i64 ((b1 : Int) % 4), .int .i64 (v4 : Int), .int .i64 ((v6 : Int) / 8192), .int .i64 ((v6 : Int) % 8192), .int .i64 (v8 : Int), .int .i64 (v9 : Int), .int .i64 0, .int .i64 0, .int .i64 0, .int .i64 0, .int .i64 0, .int .i64 0, .int .i64 0, .int .i64 0, .int .i64 0, .int .i64 0, .slice none 0 0, .slice none 0 0] 31 (0, 0))) := Lib.hid (K.set (K.set (p5.out) 3 (.int .i64 ((v6 : Int) / 8192))) 4 (.int .i64 ((v6 : Int) % 8192)))
    have z5 : Hid (((w5.setCell ⟨b, 3, none⟩ (.int .i64 ((v6 : Int) / 8192))).setCell ⟨b, 4, none⟩ (.int .i64 ((v6 : Int) % 8192))).heap[w.heap.size]? = some (.cells #[.int .i64 0, .int .i64 0, .int .i64 0, .int .i64 0, .int .i64 0, .int .i64 0, .int .i64 0, .int .i64 0, .int .i64 0, .int .i64 0, .int .i64 0, .int .i64 0, .int .i64 0, .int .i64 0, .int .i64 0, .int .i64 0, .int .i64 0, .slice none 0 0, .slice none 0 0] 31 (0, 0))) := Lib.hid (K.setFrom_other [.int .i64 ((v6 : Int) / 8192), .int .i64 ((v6 : Int) % 8192)] 3 y5.out (show w.heap.size ≠ b by omega))
    have B5 : Hid (Below w.heap.size w ((w5.setCell ⟨b, 3, none⟩ (.int .i64 ((v6 : Int) / 8192))).setCell ⟨b, 4, none⟩ (.int .i64 ((v6 : Int) % 8192)))) := Lib.hid (K.setFrom_below [.int .i64 ((v6 : Int) / 8192), .int .i64 ((v6 : Int) % 8192)] 3 F5.out (show w.heap.size ≤ b by omega))
    have h12 : ∀ w, (Instr.sliceAt 24 (.slice (some ⟨gg, oo, none⟩) n c) (some (.int .i64 12)) (some (.int .i64 16)) none).run Try.prog w = .ok (.slice S12 4 (c - 12)) w := fun w => S12h.out ▸ cut_mid _ n c 12 4 16 rfl (by omega) w
    go_wp2_with fail
    clear h12 u3 x3 u4 x4 p5 y5 F5
    refine Calls.mono (specAddrOf S12 4 (c - 12) ((bs.drop 12).take 4) _ (S12h.out ▸ (((R0.out.below B5.out).more B5.out.size).back 12 c (by rw [HL.out]; exact hc)).front 4) (by rw [List.length_take, List.length_drop, HL.out]; omega) (by omega)) ?_
    rintro e w6 ⟨rfl, b6⟩
    rw [V12.out.1, V12.out.2]
    have p6 := Lib.hid (K.below b6 q5.out)
    have y6 := Lib.hid (K.below b6 z5.out)
    have F6 := Lib.hid (bthen B5.out b6)
    clear b6 q5 z5 B5
    have u7 := K.cell p6.out 7 _ rfl
    have x7 := frozen_of_row _ _ 7 _ _ p6.out
    have u8 := K.cell p6.out 8 _ rfl
    have x8 := frozen_of_row _ _ 8 _ _ p6.out
    have u9 := K.cell p6.out 9 _ rfl
    have x9 := frozen_of_row _ _ 9 _ _ p6.out
    have u10 := K.cell p6.out 10 _ rfl
    have x10 := frozen_of_row _ _ 10 _ _ p6.out
    have u11 := K.cell p6.out 11 _ rfl
    have x11 := frozen_of_row _ _ 11 _ _ p6.out
    have q6 : Hid ((((((w6.setCell ⟨b, 7, none⟩ (.int .i64 4)).setCell ⟨b, 8, none⟩ (.int .i64 0)).setCell ⟨b, 9, none⟩ (.int .i64 0)).setCell ⟨b, 10, none⟩ (.int .i64 0)).setCell ⟨b, 11, none⟩ (.int .i64 (v12 : Int))).heap[b]? = some (.cells #[.int .i64 ((b1 : Int) / 4), .int .i64 ((b1 : Int) % 4), .int .i64 (v4 : Int), .int .i64 ((v6 : Int) / 8192), .int .i64 ((v6 : Int) % 8192), .int .i64 (v8 : Int), .int .i64 (v9 : Int), .int .i64 4, .int .i64 0, .int .i64 0, .int .i64 0, .int .i64 (v12 : Int), .int .i64 0, .int .i64 0, .int .i64 0, .int .i64 0, .int .i64 0, .slice none 0 0, .slice none 0 0] 31 (0, 0))) := Lib.hid (K.set (K.set (K.set (K.set (K.set (p6.out) 7 (.int .i64 4)) 8 (.int .i64 0)) 9 (.int .i64 0)) 10 (.int .i64 0)) 11 (.int .i64 (v12 : Int)))
    have z6 : Hid ((((((w6.setCell ⟨b, 7, none⟩ (.int .i64 4)).setCell ⟨b, 8, none⟩ (.int .i64 0)).setCell ⟨b, 9, none⟩ (.int .i64 0)).setCell ⟨b, 10, none⟩ (.int .i64 0)).setCell ⟨b, 11, none⟩ (.int .i64 (v12 : Int))).heap[w.heap.size]? = some (.cells #[.int .i64 0, .int .i64 0, .int .i64 0, .int .i64 0, .int .i64 0, .int .i64 0, .int .i64 0, .int .i64 0, .int .i64 0, .int .i64 0, .int .i64 0, .int .i64 0, .int .i64 0, .int .i64 0, .int .i64 0, .int .i64 0, .int .i64 0, .slice none 0 0, .slice none 0 0] 31 (0, 0))) := Lib.hid (K.setFrom_other [.int .i64 4, .int .i64 0, .int .i64 0, .int .i64 0, .int .i64 (v12 : Int)] 7 y6.out (show w.heap.size ≠ b by omega))
    have B6 : Hid (Below w.heap.size w (((((w6.setCell ⟨b, 7, none⟩ (.int .i64 4)).setCell ⟨b, 8, none⟩ (.int .i64 0)).setCell ⟨b, 9, none⟩ (.int .i64 0)).setCell ⟨b, 10, none⟩ (.int .i64 0)).setCell ⟨b, 11, none⟩ (.int .i64 (v12 : Int)))) := Lib.hid (K.setFrom_below [.int .i64 4, .int .i64 0, .int .i64 0, .int .i64 0, .int .i64 (v12 : Int)] 7 F6.out (show w.heap.size ≤ b by omega))
    have h16 : ∀ w, (Instr.sliceAt 24 (.slice (some ⟨gg, oo, none⟩) n c) (some (.int .i64 16)) (some (.int .i64 20)) none).run Try.prog w = .ok (.slice S16 4 (c - 16)) w := fun w => S16h.out ▸ cut_mid _ n c 16 4 20 rfl (by omega) w
    go_wp2_with fail
    clear h16 u7 x7 u8 x8 u9 x9 u10 x10 u11 x11 p6 y6 F6
    refine Calls.mono (specAddrOf S16 4 (c - 16) ((bs.drop 16).take 4) _ (S16h.out ▸ (((R0.out.below B6.out).more B6.out.size).back 16 c (by rw [HL.out]; exact hc)).front 4) (by rw [List.length_take, List.length_drop, HL.out]; omega) (by omega)) ?_
    rintro e w7 ⟨rfl, b7⟩
    rw [V16.out.1, V16.out.2]
    have p7 := Lib.hid (K.below b7 q6.out)
    have y7 := Lib.hid (K.below b7 z6.out)
    have F7 := Lib.hid (bthen B6.out b7)
    clear b7 q6 z6 B6
    have u12 := K.cell p7.out 12 _ rfl
    have x12 := frozen_of_row _ _ 12 _ _ p7.out
    have u13 := K.cell p7.out 13 _ rfl
    have x13 := frozen_of_row _ _ 13 _ _ p7.out
    have u14 := K.cell p7.out 14 _ rfl
    have x14 := frozen_of_row _ _ 14 _ _ p7.out
    have u15 := K.cell p7.out 15 _ rfl
    have x15 := frozen_of_row _ _ 15 _ _ p7.out
    have u16 := K.cell p7.out 16 _ rfl
    have x16 := frozen_of_row _ _ 16 _ _ p7.out
    have q7 : Hid ((((((w7.setCell ⟨b, 12, none⟩ (.int .i64 4)).setCell ⟨b, 13, none⟩ (.int .i64 0)).setCell ⟨b, 14, none⟩ (.int .i64 0)).setCell ⟨b, 15, none⟩ (.int .i64 0)).setCell ⟨b, 16, none⟩ (.int .i64 (v16 : Int))).heap[b]? = some (.cells #[.int .i64 ((b1 : Int) / 4), .int .i64 ((b1 : Int) % 4), .int .i64 (v4 : Int), .int .i64 ((v6 : Int) / 8192), .int .i64 ((v6 : Int) % 8192), .int .i64 (v8 : Int), .int .i64 (v9 : Int), .int .i64 4, .int .i64 0, .int .i64 0, .int .i64 0, .int .i64 (v12 : Int), .int .i64 4, .int .i64 0, .int .i64 0, .int .i64 0, .int .i64 (v16 : Int), .slice none 0 0, .slice none 0 0] 31 (0, 0))) := Lib.hid (K.set (K.set (K.set (K.set (K.set (p7.out) 12 (.int .i64 4)) 13 (.int .i64 0)) 14 (.int .i64 0)) 15 (.int .i64 0)) 16 (.int .i64 (v16 : Int)))
    have z7 : Hid ((((((w7.setCell ⟨b, 12, none⟩ (.int .i64 4)).setCell ⟨b, 13, none⟩ (.int .i64 0)).setCell ⟨b, 14, none⟩ (.int .i64 0)).setCell ⟨b, 15, none⟩ (.int .i64 0)).setCell ⟨b, 16, none⟩ (.int .i64 (v16 : Int))).heap[w.heap.size]? = some (.cells #[.int .i64 0, .int .i64 0, .int .i64 0, .int .i64 0, .int .i64 0, .int .i64 0, .int .i64 0, .int .i64 0, .int .i64 0, .int .i64 0, .int .i64 0, .int .i64 0, .int .i64 0, .int .i64 0, .int .i64 0, .int .i64 0, .int .i64 0, .slice none 0 0, .slice none 0 0] 31 (0, 0))) := Lib.hid (K.setFrom_other [.int .i64 4, .int .i64 0, .int .i64 0, .int .i64 0, .int .i64 (v16 : Int)] 12 y7.out (show w.heap.size ≠ b by omega))
    have B7 : Hid (Below w.heap.size w (((((w7.setCell ⟨b, 12, none⟩ (.int .i64 4)).setCell ⟨b, 13, none⟩ (.int .i64 0)).setCell ⟨b, 14, none⟩ (.int .i64 0)).setCell ⟨b, 15, none⟩ (.int .i64 0)).setCell ⟨b, 16, none⟩ (.int .i64 (v16 : Int)))) := Lib.hid (K.setFrom_below [.int .i64 4, .int .i64 0, .int .i64 0, .int .i64 0, .int .i64 (v16 : Int)] 12 F7.out (show w.heap.size ≤ b by omega))
    go_upto_region 20 with fail
    clear u12 x12 u13 x13 u14 x14 u15 x15 u16 x16 p7 y7 F7
    generalize (((((w7.setCell ⟨b, 12, none⟩ (.int .i64 4)).setCell ⟨b, 13, none⟩ (.int .i64 0)).setCell ⟨b, 14, none⟩ (.int .i64 0)).setCell ⟨b, 15, none⟩ (.int .i64 0)).setCell ⟨b, 16, none⟩ (.int .i64 (v16 : Int))) = W7 at q7 z7 B7 ⊢
    have hc8 : ∀ w, (Instr.sliceAt 24 (.slice (some ⟨gg, oo, none⟩) n c) (some (.int .i64 20)) (some (.int .i64 (hd : Int))) none).run Try.prog w = .ok (.slice S20 p (c - 20)) w := fun w => S20h.out ▸ cut_mid _ n c 20 p hd EP.out.1 (by omega) w
    have oz8 : Hid ((W7.alloc (.cells #[] 5)).ownsRow W7.heap.size 5 1 (.slice (some ⟨W7.heap.size, 0, none⟩) 0 0) ([] : List UInt8).length (cellsOf [])) := Lib.hid (World.ownsRow_lit W7 #[] 0 (Nat.le_refl _) (Nat.zero_le _) rfl)
    have qz8 := Lib.hid (K.old q7.out (.cells #[] 5))
    have zz8 := Lib.hid (K.old z7.out (.cells #[] 5))
    have Bz8 := Lib.hid (bthen B7.out (Joins.below_alloc1 W7 (.cells #[] 5)))
    have ls8 := K.lt q7.out
    go_upto_region 21 with (at_builtin; (refine wpList_append_b rfl (.tmp 111) (.tmp 114) rfl W7.heap.size (.slice (some ⟨W7.heap.size, 0, none⟩) 0 0) [] rfl oz8.out w.heap.size S20 p (c - 20) os rfl LN.out.1 (S20h.out ▸ ES.out.1 ▸ (((R0.out.below Bz8.out).back 20 c (by rw [HL.out]; exact hc)).front p)) (by rw [LN.out.1]; have := EP.out; simp; omega) (by simp) ?_); intro v w8 o8 g8 _; have n8 : w8.ownsRow W7.heap.size 5 1 v p (cellsOf os) := (by rw [List.nil_append, LN.out.1] at o8; exact o8); clear o8; obtain ⟨A8, c8, rfl⟩ := own_form n8; have O8 := Lib.hid n8; clear n8; have p8 := Lib.hid (K.kept g8 qz8.out (fun k hk => by have hk' : W7.heap.size = k := Option.some.inj hk; omega)); have y8 := Lib.hid (K.kept g8 zz8.out (fun k hk => by have hk' : W7.heap.size = k := Option.some.inj hk; omega)); have F8 := Lib.hid (bgrown Bz8.out g8 (fun k hk => by have hk' : W7.heap.size = k := Option.some.inj hk; have := B7.out.size; omega)); have KG8 := Lib.hid g8; clear g8; have u17 := K.cell p8.out 17 _ rfl; have x17 := frozen_of_row _ _ 17 _ _ p8.out)
    clear u17 x17 hc8
    have q8 : Hid ((w8.setCell ⟨b, 17, none⟩ (.slice A8 p c8)).heap[b]? = some (.cells #[.int .i64 ((b1 : Int) / 4), .int .i64 ((b1 : Int) % 4), .int .i64 (v4 : Int), .int .i64 ((v6 : Int) / 8192), .int .i64 ((v6 : Int) % 8192), .int .i64 (v8 : Int), .int .i64 (v9 : Int), .int .i64 4, .int .i64 0, .int .i64 0, .int .i64 0, .int .i64 (v12 : Int), .int .i64 4, .int .i64 0, .int .i64 0, .int .i64 0, .int .i64 (v16 : Int), .slice A8 p c8, .slice none 0 0] 31 (0, 0))) := Lib.hid (K.set p8.out 17 _)
    have z8 := Lib.hid (K.other y8.out b 17 (.slice A8 p c8) (by omega))
    have B8 := Lib.hid (F8.out.setCell (p := ⟨b, 17, none⟩) (show w.heap.size ≤ b by omega) (.slice A8 p c8))
    have P8 := Lib.hid (own_set O8.out b 17 (.slice A8 p c8) ls8)
    clear p8 y8 F8 O8 KG8 oz8 qz8 zz8 Bz8
    generalize w8.setCell ⟨b, 17, none⟩ (.slice A8 p c8) = W8 at q8 z8 B8 P8 ⊢
    have lW := K.lt q7.out
    have hc9 : ∀ w, (Instr.sliceAt 24 (.slice (some ⟨gg, oo, none⟩) n c) (some (.int .i64 (hd : Int))) (some (.int .i64 (t : Int))) none).run Try.prog w = .ok (.slice S21 q (c - hd)) w := fun w => S21h.out ▸ cut_mid _ n c hd q t EP.out.2.1 (by omega) w
    have oz9 : Hid ((W8.alloc (.cells #[] 5)).ownsRow W8.heap.size 5 1 (.slice (some ⟨W8.heap.size, 0, none⟩) 0 0) ([] : List UInt8).length (cellsOf [])) := Lib.hid (World.ownsRow_lit W8 #[] 0 (Nat.le_refl _) (Nat.zero_le _) rfl)
    have qz9 := Lib.hid (K.old q8.out (.cells #[] 5))
    have zz9 := Lib.hid (K.old z8.out (.cells #[] 5))
    have Bz9 := Lib.hid (bthen B8.out (Joins.below_alloc1 W8 (.cells #[] 5)))
    have ls9 := K.lt q8.out
    go_upto_region 22 with (at_builtin; (refine wpList_append_b rfl (.tmp 117) (.tmp 121) rfl W8.heap.size (.slice (some ⟨W8.heap.size, 0, none⟩) 0 0) [] rfl oz9.out w.heap.size S21 q (c - hd) ds rfl LN.out.2.1 (S21h.out ▸ ES.out.2.1 ▸ (((R0.out.below Bz9.out).back hd c (by rw [HL.out]; exact hc)).front q)) (by rw [LN.out.2.1]; have := EP.out; simp; omega) (by simp) ?_); intro v w9 o9 g9 _; have n9 : w9.ownsRow W8.heap.size 5 1 v q (cellsOf ds) := (by rw [List.nil_append, LN.out.2.1] at o9; exact o9); clear o9; obtain ⟨A9, c9, rfl⟩ := own_form n9; have O9 := Lib.hid n9; clear n9; have p9 := Lib.hid (K.kept g9 qz9.out (fun k hk => by have hk' : W8.heap.size = k := Option.some.inj hk; omega)); have y9 := Lib.hid (K.kept g9 zz9.out (fun k hk => by have hk' : W8.heap.size = k := Option.some.inj hk; omega)); have F9 := Lib.hid (bgrown Bz9.out g9 (fun k hk => by have hk' : W8.heap.size = k := Option.some.inj hk; have := B8.out.size; omega)); have KG9 := Lib.hid g9; clear g9; have u18 := K.cell p9.out 18 _ rfl; have x18 := frozen_of_row _ _ 18 _ _ p9.out)
    clear u18 x18 hc9
    have AP := Lib.hid (apart_of (fun k hk => P8.out.lt k hk) (fun k hk => O9.out.lt k hk))
    have P9 := Lib.hid (own_grown (P8.out.alloc (.cells #[] 5)) KG9.out (fun k hk e => by have := (P8.out.lt k hk).2; have e' : W8.heap.size = k := Option.some.inj e; omega))
    have q9 : Hid ((w9.setCell ⟨b, 18, none⟩ (.slice A9 q c9)).heap[b]? = some (.cells #[.int .i64 ((b1 : Int) / 4), .int .i64 ((b1 : Int) % 4), .int .i64 (v4 : Int), .int .i64 ((v6 : Int) / 8192), .int .i64 ((v6 : Int) % 8192), .int .i64 (v8 : Int), .int .i64 (v9 : Int), .int .i64 4, .int .i64 0, .int .i64 0, .int .i64 0, .int .i64 (v12 : Int), .int .i64 4, .int .i64 0, .int .i64 0, .int .i64 0, .int .i64 (v16 : Int), .slice A8 p c8, .slice A9 q c9] 31 (0, 0))) := Lib.hid (K.set p9.out 18 _)
    have z9 := Lib.hid (K.other y9.out b 18 (.slice A9 q c9) (by omega))
    have B9 := Lib.hid (F9.out.setCell (p := ⟨b, 18, none⟩) (show w.heap.size ≤ b by omega) (.slice A9 q c9))
    have Oa := Lib.hid (own_set (own_base P9.out (show b + 1 ≤ _ from ls8)) b 18 (.slice A9 q c9) (by omega))
    have Ob := Lib.hid (own_set (own_base O9.out (show b + 1 ≤ _ from ls9)) b 18 (.slice A9 q c9) (by omega))
    clear p9 y9 F9 O9 KG9 oz9 qz9 zz9 Bz9 P9 P8
    generalize w9.setCell ⟨b, 18, none⟩ (.slice A9 q c9) = W9 at q9 z9 B9 Oa Ob ⊢
    go_wp2_with fail
    refine Calls.mono (be16L (some ⟨gg, oo, none⟩) n c bs 10 v10 _ ((R0.out.below B9.out).more B9.out.size) HL.out (by omega) (by omega) E.out.2.2.2.1) ?_
    rintro e wa ⟨rfl, ba⟩
    have qa := Lib.hid (K.below ba q9.out)
    have za := Lib.hid (K.below ba z9.out)
    have Ba := Lib.hid (bthen B9.out ba)
    have Pa := Lib.hid (own_below Oa.out ba)
    have Pb := Lib.hid (own_below Ob.out ba)
    clear ba q9 z9 B9 Oa Ob
    go_wp2_with (with_reducible refine loadF rfl _ rfl b rfl qa.out ?_)
    refine Calls.mono (sumSC (⟨(b1 : Int) / 4, (b1 : Int) % 4, v4, (v6 : Int) / 8192, (v6 : Int) % 8192, v8, v9, ⟨4, 0, 0, 0, v12⟩, ⟨4, 0, 0, 0, v16⟩⟩ : Fh) A8 A9 p c8 q c9 os _ (by have := EP.out; omega) (RB.of_own Pa.out) LN.out.1) ?_
    rintro e wb ⟨rfl, bb⟩
    have qb := Lib.hid (K.below bb qa.out)
    have zb := Lib.hid (K.below bb za.out)
    have Bb := Lib.hid (bthen Ba.out bb)
    have Qa := Lib.hid (own_below Pa.out bb)
    have Qb := Lib.hid (own_below Pb.out bb)
    clear bb qa za Ba Pa Pb
    obtain ⟨h6, h0⟩ := HF.out
    generalize (⟨(b1 : Int) / 4, (b1 : Int) % 4, v4, (v6 : Int) / 8192, (v6 : Int) % 8192, v8, v9, ⟨4, 0, 0, 0, v12⟩, ⟨4, 0, 0, 0, v16⟩⟩ : Fh).sum os q = y at h6 h0 ⊢
    by_cases hy : (v10 : Int) = y
    · have H0 := Lib.hid (h0 hy)
      clear h6 h0
      go_wp2_with fail
      have I0 : Hid (IS25 (#[.int .i64 ((b1 : Int) / 4), .int .i64 ((b1 : Int) % 4), .int .i64 (v4 : Int), .int .i64 ((v6 : Int) / 8192), .int .i64 ((v6 : Int) % 8192), .int .i64 (v8 : Int), .int .i64 (v9 : Int), .int .i64 4, .int .i64 0, .int .i64 0, .int .i64 0, .int .i64 (v12 : Int), .int .i64 4, .int .i64 0, .int .i64 0, .int .i64 0, .int .i64 (v16 : Int), .slice A8 p c8, .slice A9 q c9]) A8 A9 p c8 q c9 os ds b w.heap.size wb.heap.size w 0 wb.drew) := Lib.hid ⟨⟨Bb.out.os, Bb.out.tape, Bb.out.output, Bb.out.size, Bb.out.block⟩, Nat.le_refl _, qb.out, Qa.out, Qb.out, fun _ => zb.out, fun h => by omega⟩
      have LA := Lib.hid Qa.out.lt
      have LD := Lib.hid Qb.out.lt
      have lbb := K.lt qb.out
      have hcut : ∀ w, (Instr.sliceAt 24 (.slice (some ⟨gg, oo, none⟩) n c) (some (.int .i64 (t : Int))) none none).run Try.prog w = .ok (.slice S25 rl (c - t)) w := fun w => by
        have := cut_back (some ⟨gg, oo, none⟩) n c t (by omega) w
        rw [S25h.out, show n - t = rl by have := EP.out; omega] at this
        exact this
      have HC := Lib.hid hcut
      clear hcut
      refine wp_region_stage2 (by kernel_rfl) (G25 (.agg #[.int .i64 ((b1 : Int) / 4), .int .i64 ((b1 : Int) % 4), .int .i64 (v4 : Int), .int .i64 ((v6 : Int) / 8192), .int .i64 ((v6 : Int) % 8192), .int .i64 (v8 : Int), .int .i64 (v9 : Int), .int .i64 4, .int .i64 0, .int .i64 0, .int .i64 0, .int .i64 (v12 : Int), .int .i64 4, .int .i64 0, .int .i64 0, .int .i64 0, .int .i64 (v16 : Int), .slice A8 p c8, .slice A9 q c9]) gg oo n c t rl S25 wb.heap.size rs) [0, 2, 6, 8] [1, 5, 6, 7, 8] (IS25 (#[.int .i64 ((b1 : Int) / 4), .int .i64 ((b1 : Int) % 4), .int .i64 (v4 : Int), .int .i64 ((v6 : Int) / 8192), .int .i64 ((v6 : Int) % 8192), .int .i64 (v8 : Int), .int .i64 (v9 : Int), .int .i64 4, .int .i64 0, .int .i64 0, .int .i64 0, .int .i64 (v12 : Int), .int .i64 4, .int .i64 0, .int .i64 0, .int .i64 0, .int .i64 (v16 : Int), .slice A8 p c8, .slice A9 q c9]) A8 A9 p c8 q c9 os ds b w.heap.size wb.heap.size w) 140 (by kernel_rfl) (by kernel_rfl) rfl I0.out ?_ ?_
      · intro j o ho m a' v K' hx hnd hm hI hK
        match j, ho with
        | 0, ho =>
          obtain rfl := Option.some.inj ho
          exact wp_load_row 31 _ rfl b (out_of hx 8 (by simp) rfl) _ _ (0, 0) _ hI.row Try.underlying31 rfl info_four (hK _ _ rfl (fun _ _ _ _ _ _ h => h) hI)
        | 1, ho =>
          obtain rfl := Option.some.inj ho
          obtain rfl : 0 = m := hm 0 rfl
          exact t_mk0 rfl (hK _ _ ⟨v.heap.size, rfl, fun _ => World.ownsRow_lit v #[] 0 hI.sz (Nat.zero_le _) rfl⟩ (fun i _ _ hi _ _ h => g25_on (.inr rfl) (fun _ _ _ h => World.ownsRow.alloc h _) h) ⟨bthen hI.below (Joins.below_alloc1 v _), Nat.le_trans hI.sz (by simp), K.old hI.row _, hI.ownA.alloc _, hI.ownD.alloc _, fun _ => K.old (hI.res (by omega)) _, fun h => absurd h (by decide)⟩)
        | 2, ho =>
          obtain rfl := Option.some.inj ho
          exact s_move 0 _ rfl (out_of hx 0 (by simp) rfl) (hK _ _ rfl (fun _ _ _ _ _ _ h => h) hI)
        | 3, ho =>
          obtain rfl := Option.some.inj ho
          exact s_move 6 _ rfl (out_of hx 6 (by simp) rfl) (hK _ _ rfl (fun _ _ _ _ _ _ h => h) hI)
        | 4, ho =>
          obtain rfl := Option.some.inj ho
          have h1 : a'.eval (.tmp 136) = (.slice (some ⟨gg, oo, none⟩) n c) := (need_of (Γ := fun j => (G25 (.agg #[.int .i64 ((b1 : Int) / 4), .int .i64 ((b1 : Int) % 4), .int .i64 (v4 : Int), .int .i64 ((v6 : Int) / 8192), .int .i64 ((v6 : Int) % 8192), .int .i64 (v8 : Int), .int .i64 (v9 : Int), .int .i64 4, .int .i64 0, .int .i64 0, .int .i64 0, .int .i64 (v12 : Int), .int .i64 4, .int .i64 0, .int .i64 0, .int .i64 0, .int .i64 (v16 : Int), .slice A8 p c8, .slice A9 q c9]) gg oo n c t rl S25 wb.heap.size rs) j m) (w := v) hnd 2 136 (by kernel_rfl) :)
          have h2 : a'.eval (.tmp 137) = .int .i64 (t : Int) := (need_of (Γ := fun j => (G25 (.agg #[.int .i64 ((b1 : Int) / 4), .int .i64 ((b1 : Int) % 4), .int .i64 (v4 : Int), .int .i64 ((v6 : Int) / 8192), .int .i64 ((v6 : Int) % 8192), .int .i64 (v8 : Int), .int .i64 (v9 : Int), .int .i64 4, .int .i64 0, .int .i64 0, .int .i64 0, .int .i64 (v12 : Int), .int .i64 4, .int .i64 0, .int .i64 0, .int .i64 0, .int .i64 (v16 : Int), .slice A8 p c8, .slice A9 q c9]) gg oo n c t rl S25 wb.heap.size rs) j m) (w := v) hnd 3 137 (by kernel_rfl) :)
          exact t_cut _ _ _ _ _ rfl h1 h2 HC.out (hK _ _ rfl (fun _ _ _ _ _ _ h => h) hI)
        | 5, ho =>
          obtain rfl := Option.some.inj ho
          obtain rfl : 1 = m := hm 1 rfl
          obtain ⟨b', h1, h3⟩ : ∃ b', a'.eval (.tmp 135) = .slice (some ⟨b', 0, none⟩) 0 0 ∧ ((1 : Nat) ≤ 1 → v.ownsRow wb.heap.size 5 1 (.slice (some ⟨b', 0, none⟩) 0 0) 0 (cellsOf [])) := (need_of (Γ := fun j => (G25 (.agg #[.int .i64 ((b1 : Int) / 4), .int .i64 ((b1 : Int) % 4), .int .i64 (v4 : Int), .int .i64 ((v6 : Int) / 8192), .int .i64 ((v6 : Int) % 8192), .int .i64 (v8 : Int), .int .i64 (v9 : Int), .int .i64 4, .int .i64 0, .int .i64 0, .int .i64 0, .int .i64 (v12 : Int), .int .i64 4, .int .i64 0, .int .i64 0, .int .i64 0, .int .i64 (v16 : Int), .slice A8 p c8, .slice A9 q c9]) gg oo n c t rl S25 wb.heap.size rs) j 1) (w := v) hnd 1 135 (by kernel_rfl) :)
          have h2 : a'.eval (.tmp 138) = .slice S25 rl (c - t) := (need_of (Γ := fun j => (G25 (.agg #[.int .i64 ((b1 : Int) / 4), .int .i64 ((b1 : Int) % 4), .int .i64 (v4 : Int), .int .i64 ((v6 : Int) / 8192), .int .i64 ((v6 : Int) % 8192), .int .i64 (v8 : Int), .int .i64 (v9 : Int), .int .i64 4, .int .i64 0, .int .i64 0, .int .i64 0, .int .i64 (v12 : Int), .int .i64 4, .int .i64 0, .int .i64 0, .int .i64 0, .int .i64 (v16 : Int), .slice A8 p c8, .slice A9 q c9]) gg oo n c t rl S25 wb.heap.size rs) j 1) (w := v) hnd 4 138 (by kernel_rfl) :)
          have h4 := h3 (by decide)
          have lb' : wb.heap.size ≤ b' := (h4.lt b' rfl).1
          refine t_append _ _ rfl wb.heap.size _ [] h1 h4 w.heap.size S25 rl (c - t) rs h2 LN.out.2.2 (S25h.out ▸ ES.out.2.2 ▸ ((R0.out.below hI.below).back t c (by rw [HL.out]; exact hc))) (by rw [LN.out.2.2]; have := EP.out; simp; omega) hI.sz ?_
          intro v' w' o6 g6
          have n6 : w'.ownsRow wb.heap.size 5 1 v' rl (cellsOf rs) := by rw [List.nil_append, LN.out.2.2] at o6; exact o6
          obtain ⟨E9, k9, rfl⟩ := own_form n6
          exact hK _ _ ⟨by decide, E9, k9, rfl, n6⟩ (fun i _ _ hi _ _ h => g25_app hi h) ⟨bgrown hI.below g6 (fun k hk => by have hk' : b' = k := Option.some.inj hk; omega), Nat.le_trans hI.sz g6.size, K.kept g6 hI.row (fun k hk => by have hk' : b' = k := Option.some.inj hk; omega), own_grown hI.ownA g6 (fun k hk e => by have := (LA.out k hk).2; have e' : b' = k := Option.some.inj e; omega), own_grown hI.ownD g6 (fun k hk e => by have := (LD.out k hk).2; have e' : b' = k := Option.some.inj e; omega), fun _ => K.kept g6 (hI.res (by omega)) (fun k hk => by have hk' : b' = k := Option.some.inj hk; omega), fun h => absurd h (by decide)⟩
        | 6, ho =>
          obtain rfl := Option.some.inj ho
          have h1 : a'.eval (.tmp 134) = .agg #[.int .i64 ((b1 : Int) / 4), .int .i64 ((b1 : Int) % 4), .int .i64 (v4 : Int), .int .i64 ((v6 : Int) / 8192), .int .i64 ((v6 : Int) % 8192), .int .i64 (v8 : Int), .int .i64 (v9 : Int), .int .i64 4, .int .i64 0, .int .i64 0, .int .i64 0, .int .i64 (v12 : Int), .int .i64 4, .int .i64 0, .int .i64 0, .int .i64 0, .int .i64 (v16 : Int), .slice A8 p c8, .slice A9 q c9] := (need_of (Γ := fun j => (G25 (.agg #[.int .i64 ((b1 : Int) / 4), .int .i64 ((b1 : Int) % 4), .int .i64 (v4 : Int), .int .i64 ((v6 : Int) / 8192), .int .i64 ((v6 : Int) % 8192), .int .i64 (v8 : Int), .int .i64 (v9 : Int), .int .i64 4, .int .i64 0, .int .i64 0, .int .i64 0, .int .i64 (v12 : Int), .int .i64 4, .int .i64 0, .int .i64 0, .int .i64 0, .int .i64 (v16 : Int), .slice A8 p c8, .slice A9 q c9]) gg oo n c t rl S25 wb.heap.size rs) j m) (w := v) hnd 0 134 (by kernel_rfl) :)
          obtain rfl : 2 = m := hm 2 rfl
          refine wp_store_row 31 _ _ rfl w.heap.size _ (out_of hx 2 (by simp) rfl) h1 _ _ (hI.res (by omega)) info_four rfl (by simp [Value.oneCell']) (hK _ _ trivial (fun i _ _ hi _ _ h => g25_on (.inr rfl) (fun _ _ _ h => K.setRow_own _ h (by omega)) h) ⟨K.setRow_below hI.below (Nat.le_refl _) _, by simp only [setRow_size]; exact hI.sz, by rw [setRow_other _ _ _ _ (by omega)]; exact hI.row, K.setRow_own _ hI.ownA (by omega), K.setRow_own _ hI.ownD (by omega), fun h => absurd h (by decide), fun _ => setRow_heap _ _ _ _ _ _ (hI.res (by omega))⟩)
        | 7, ho =>
          obtain rfl := Option.some.inj ho
          obtain rfl : 3 = m := hm 3 rfl
          obtain ⟨_, E9, k9, h1, h2⟩ : 1 < 3 ∧ ∃ E k, a'.eval (.tmp 139) = .slice E rl k ∧ v.ownsRow wb.heap.size 5 1 (.slice E rl k) rl (cellsOf rs) := (need_of (Γ := fun j => (G25 (.agg #[.int .i64 ((b1 : Int) / 4), .int .i64 ((b1 : Int) % 4), .int .i64 (v4 : Int), .int .i64 ((v6 : Int) / 8192), .int .i64 ((v6 : Int) % 8192), .int .i64 (v8 : Int), .int .i64 (v9 : Int), .int .i64 4, .int .i64 0, .int .i64 0, .int .i64 0, .int .i64 (v12 : Int), .int .i64 4, .int .i64 0, .int .i64 0, .int .i64 0, .int .i64 (v16 : Int), .slice A8 p c8, .slice A9 q c9]) gg oo n c t rl S25 wb.heap.size rs) j 3) (w := v) hnd 5 139 (by kernel_rfl) :)
          exact t_assign _ _ rfl h1 (hK _ _ ⟨by decide, E9, k9, rfl, h2⟩ (fun i _ _ hi _ _ h => g25_on (.inr rfl) (fun _ _ _ h => h) h) ⟨hI.below, hI.sz, hI.row, hI.ownA, hI.ownD, fun h => absurd h (by decide), fun _ => hI.done (by omega)⟩)
        | 8, ho =>
          obtain rfl := Option.some.inj ho
          obtain rfl : 4 = m := hm 4 rfl
          exact t_const _ rfl (hK _ _ rfl (fun i _ _ hi _ _ h => g25_on (.inr rfl) (fun _ _ _ h => h) h) ⟨hI.below, hI.sz, hI.row, hI.ownA, hI.ownD, fun h => absurd h (by decide), fun _ => hI.done (by omega)⟩)
        | j + 9, ho => simp at ho
      · intro a' w' hsz hdf hout hrest hG hI
        have g2 : a'.tmps.getD 2 undef = .pointer (some ⟨w.heap.size, 0, none⟩) := hout 2 (by simp)
        obtain ⟨_, E9, k9, g3, oE⟩ : 3 < 5 ∧ ∃ E k, a'.tmps.getD 3 undef = .slice E rl k ∧ w'.ownsRow wb.heap.size 5 1 (.slice E rl k) rl (cellsOf rs) := hG 7 _ 3 rfl rfl
        have g4 : a'.tmps.getD 4 undef = .int .i64 0 := hG 8 _ 4 rfl rfl
        have D0 := Lib.hid (And.intro hdf (And.intro g2 (And.intro g3 g4)))
        have HI := Lib.hid (And.intro hI oE)
        clear hout hrest hG oE hsz hdf g2 g3 g4 hI
        go_wp2
        (try simp only [Exit.inBlock, Exit.then])
        obtain ⟨hI, oE⟩ := HI.out
        have lw2 := Bb.out.size
        refine bodyPost_ret (v := .tuple #[.agg #[.int .i64 ((b1 : Int) / 4), .int .i64 ((b1 : Int) % 4), .int .i64 (v4 : Int), .int .i64 ((v6 : Int) / 8192), .int .i64 ((v6 : Int) % 8192), .int .i64 (v8 : Int), .int .i64 (v9 : Int), .int .i64 4, .int .i64 0, .int .i64 0, .int .i64 0, .int .i64 (v12 : Int), .int .i64 4, .int .i64 0, .int .i64 0, .int .i64 0, .int .i64 (v16 : Int), .slice A8 p c8, .slice A9 q c9], .slice E9 rl k9, .int .i64 0]) ?_ D0.out.1 (F0.out H0.out _ _ _ _ _ _ _ (own_base hI.ownA (by omega)) (own_base hI.ownD (by omega)) (own_base oE lw2) AP.out (fun k h1 h2 => by have := LA.out k h1; have := (oE.lt k h2).1; omega) (fun k h1 h2 => by have := LD.out k h1; have := (oE.lt k h2).1; omega) hI.below)
        rw [K.resCell3 Try.results25 _ _ _ w.heap.size _ D0.out.2.1 (run_loadVar_row _ _ 31 31 _ (0, 0) _ (hI.done (by decide)) Try.underlying31 rfl info_four), D0.out.2.2.1, D0.out.2.2.2]
    · have H := Lib.hid (h6 hy)
      clear h6 h0
      go_wp2_with (with_reducible refine storeF rfl _ _ rfl w.heap.size rfl rfl zb.out ?_)
      (try simp only [Exit.inBlock, Exit.then])
      refine bodyPost_ret (v := .tuple #[.agg #[.int .i64 0, .int .i64 0, .int .i64 0, .int .i64 0, .int .i64 0, .int .i64 0, .int .i64 0, .int .i64 0, .int .i64 0, .int .i64 0, .int .i64 0, .int .i64 0, .int .i64 0, .int .i64 0, .int .i64 0, .int .i64 0, .int .i64 0, .slice none 0 0, .slice none 0 0], .slice none 0 0, .int .i64 6]) ?_ rfl (frOut_no H.out (by omega) (K.setRow_below Bb.out (Nat.le_refl _) _))
      exact K.resCell3 Try.results25 _ _ _ w.heap.size _ rfl (run_loadVar_row _ _ 31 31 _ (0, 0) _ (setRow_heap _ _ _ _ _ _ zb.out) Try.underlying31 rfl info_four)
end Go.Proofs.Ytekdfffjlcikeaa

namespace Go.Proofs.Ytekdfffjlcikeaa
open Go.RowKit

theorem specFourRead (A : Option Addr) (n c : Nat) (bs : List UInt8) (w : World) (hr : RB w w.heap.size A bs) (hl : bs.length = n) (hs : n ≤ 1048576) (hc : n ≤ c) : Calls Try.prog 25 #[.slice A n c] w (FROut bs w) := by
  by_cases h1 : 1600 < n
  · exact readS_long A n c bs w hl hs h1
  · by_cases h2 : n < 20
    · exact readS_short A n c bs w hl hs h2
    · obtain ⟨gg, oo, rfl, _, _⟩ := hr.at_ (k := 0) (by omega)
      have frc1 : frc bs = if num bs 0 1 / 16 ≠ 4 then 3 else if fHead bs < 20 ∨ bs.length < fHead bs then 4 else if num bs 2 2 < fHead bs ∨ 1500 < num bs 2 2 ∨ bs.length < num bs 2 2 then 5 else if (num bs 10 2 : Int) ≠ (fx0 bs).sum (fo0 bs) (num bs 2 2 - fHead bs) then 6 else 0 := by
        unfold frc
        rw [if_neg (by omega), if_neg (by omega)]
      by_cases h3 : num bs 0 1 / 16 = 4
      · rw [if_neg (by omega)] at frc1
        by_cases h4 : fHead bs < 20 ∨ bs.length < fHead bs
        · rw [if_pos h4] at frc1
          exact readS_4 _ n c bs w hr hl (by omega) (by omega) _ rfl (by omega) _ rfl (by unfold fHead at h4; omega) frc1
        · rw [if_neg h4] at frc1
          by_cases h5 : num bs 2 2 < fHead bs ∨ 1500 < num bs 2 2 ∨ bs.length < num bs 2 2
          · rw [if_pos h5] at frc1
            exact readS_5 _ n c bs w hr hl (by omega) (by omega) _ rfl (by omega) (fHead bs) rfl (by omega) _ rfl (by omega) frc1
          · rw [if_neg h5] at frc1
            exact readS_rest _ n c bs w hr hl (by omega) (by omega) hc _ rfl (by omega) (fHead bs) rfl (by omega) _ _ _ _ _ _ _ _ _ rfl rfl (by omega) rfl rfl rfl rfl rfl rfl rfl (fHead bs - 20) (num bs 2 2 - fHead bs) (n - num bs 2 2) (by omega) (by omega) (by omega) (fo0 bs) (fb0 bs) _ rfl rfl rfl
              (fun h6 => frc1.trans (if_pos (show (num bs 10 2 : Int) ≠ (fx0 bs).sum (fo0 bs) (num bs 2 2 - fHead bs) from h6))) (fun h6 => frc1.trans (if_neg (show ¬ ((num bs 10 2 : Int) ≠ (fx0 bs).sum (fo0 bs) (num bs 2 2 - fHead bs)) from fun h => h h6))) rfl rfl rfl
      · rw [if_pos h3] at frc1
        exact readS_3 _ n c bs w hr hl (by omega) (by omega) _ rfl (by omega) frc1
end Go.Proofs.Ytekdfffjlcikeaa

namespace Go.Proofs.Ytekdfffjlcikeaa
open Go.RowKit

set_option maxHeartbeats 400000 in
theorem markB0 (A : Option Addr) (c : Nat) (k : Int) (w : World) : Calls Try.prog 23 #[.slice A 0 c, .int .i64 k] w fun e w' => e = .returned (.int .i64 k) ∧ w = w' := by
  go_enter Try.func23, Try.ntmps23
  go_wp2
  go_loop [1, 5] (fun q i => i = .int .i64 0 ∧ q = .int .i64 k) (fun _ _ => 0)
  case atStart => exact ⟨rfl, rfl⟩
  case round =>
    obtain ⟨rfl, rfl⟩ := hrel
    go_wp2
    go_ret
    exact ⟨rfl, rfl⟩

set_option maxHeartbeats 2000000 in
theorem markFour0 (x : Fh) (A D : Option Addr) (n c d base : Nat) (os : List UInt8) (k : Int) (w : World) (ho : w.ownsRow base 5 1 (.slice A n c) n (cellsOf os)) (hn : n ≤ 1048576) (h0 : 0 ≤ k) (hk : k ≤ 1048576) :
    Calls Try.prog 22 #[.agg #[.int .i64 x.dscp, .int .i64 x.ecn, .int .i64 x.id, .int .i64 x.flags, .int .i64 x.frag, .int .i64 x.ttl, .int .i64 x.proto, .int .i64 x.src.k, .int .i64 x.src.a, .int .i64 x.src.b, .int .i64 x.src.c, .int .i64 x.src.d, .int .i64 x.dst.k, .int .i64 x.dst.a, .int .i64 x.dst.b, .int .i64 x.dst.c, .int .i64 x.dst.d, .slice A n c, .slice D 0 d], .int .i64 k] w fun e w' => e = .returned (.int .i64 (k + n)) ∧ w.grownBy w' (Value.slice A n c).ownBlock := by
  have HO := Lib.hid (fun o : Obj => ho.alloc o)
  have LA := Lib.hid (fun k hk => (ho.lt k hk).2)
  clear ho
  go_enter Try.func22, Try.ntmps22
  go_wp2_with fail
  refine Calls.mono (markBn A n c base os k _ (HO.out _) hn h0 hk) ?_
  rintro e w1 ⟨rfl, o1, g1⟩
  have q1 := Lib.hid (K.kept g1 (K.new w _) (fun j hj => by have := LA.out j hj; omega))
  have G1 := Lib.hid (grownBy_trans (only_new (K.refl w _) _) g1)
  clear g1 o1
  have d1 := K.cell q1.out 18 _ rfl
  go_wp2_with fail
  refine Calls.mono (markB0 D d (k + n) _) ?_
  rintro e w2 ⟨rfl, rfl⟩
  go_wp2
  go_ret
  exact ⟨rfl, G1.out⟩

theorem markFourW (x : Fh) (A D : Option Addr) (n c m d base : Nat) (os bs : List UInt8) (w : World) (ho : w.ownsRow base 5 1 (.slice A n c) n (cellsOf os)) (hb : w.ownsRow base 5 1 (.slice D m d) m (cellsOf bs))
    (hap : ∀ k, (Value.slice A n c).ownBlock = some k → (Value.slice D m d).ownBlock ≠ some k) (hn : n + m ≤ 1048576) :
    Calls Try.prog 22 #[.agg #[.int .i64 x.dscp, .int .i64 x.ecn, .int .i64 x.id, .int .i64 x.flags, .int .i64 x.frag, .int .i64 x.ttl, .int .i64 x.proto, .int .i64 x.src.k, .int .i64 x.src.a, .int .i64 x.src.b, .int .i64 x.src.c, .int .i64 x.src.d, .int .i64 x.dst.k, .int .i64 x.dst.a, .int .i64 x.dst.b, .int .i64 x.dst.c, .int .i64 x.dst.d, .slice A n c, .slice D m d], .int .i64 1] w fun e w' => e = .returned (.int .i64 (1 + n + m)) ∧
        ∃ u, w.grownBy u (Value.slice A n c).ownBlock ∧ u.grownBy w' (Value.slice D m d).ownBlock := by
  by_cases h : m = 0
  · subst h
    exact (markFour0 x A D n c d base os 1 w ho (by omega) (by omega) (by omega)).mono fun e w' ⟨he, hg⟩ => ⟨by rw [he]; simp, w', hg, K.refl w' _⟩
  · exact (markFourC x A D n c m d base os bs 1 w ho hb hap (by omega) (by omega) (by omega) (by omega)).mono fun e w' ⟨he, _, _, hu⟩ => ⟨he, hu⟩
end Go.Proofs.Ytekdfffjlcikeaa
