/-
  The laws' own helpers on frames: a copy, a size, a comparison, a marking, a look at the marks.
-/
import Derived.Test.YtaemonjiejgciaaEthLib
import Derived.Test.YtaemonjiejgciaaInBytes
import Derived.Test.YtaemonjiejgciaaCells
namespace Go.Proofs.Ytaemonjiejgciaa
open Go.RowKit

theorem info_eth : (Try.prog.info? 27).map (·.size) = some 5 := by kernel_rfl

set_option maxHeartbeats 400000 in
theorem szB_yes (A : Option Addr) (n c : Nat) (l : Int) (w : World) (h : (n : Int) ≤ l) (hl : l ≤ 1048576) :
    Calls Try.prog 28 #[.slice A n c, .int .i64 l] w fun e w' => e = .returned (.int .i64 (l - n)) ∧ w = w' := by
  go_enter Try.func28, Try.ntmps28
  go_wp2
  go_ret
  exact ⟨rfl, rfl⟩

set_option maxHeartbeats 400000 in
theorem szB_no (A : Option Addr) (n c : Nat) (l : Int) (w : World) (h : l < (n : Int)) (h0 : 0 ≤ l) (hn : n ≤ maxLen) :
    Calls Try.prog 28 #[.slice A n c, .int .i64 l] w fun e w' => e = .returned (.int .i64 (-1)) ∧ w = w' := by
  unfold maxLen at hn
  go_enter Try.func28, Try.ntmps28
  go_wp2
  go_ret
  exact ⟨rfl, rfl⟩

set_option maxHeartbeats 400000 in
theorem szE_yes (x : Eh) (A : Option Addr) (n c : Nat) (l : Int) (w : World) (h : (n : Int) ≤ l) (hl : l ≤ 1048576) :
    Calls Try.prog 8 #[.agg #[.int .i64 x.d, .int .i64 x.s, .int .i64 x.t, .int .i64 x.k, .slice A n c], .int .i64 l] w fun e w' => e = .returned (.int .i64 (l - n)) ∧ Below w.heap.size w w' := by
  go_enter Try.func8, Try.ntmps8
  go_wp2_with (go_at_call 28; refine (szB_yes A n c l _ h hl).mono ?_; rintro e w' ⟨rfl, rfl⟩)
  go_ret
  exact ⟨rfl, by go_grown⟩

set_option maxHeartbeats 400000 in
theorem szE_no (x : Eh) (A : Option Addr) (n c : Nat) (l : Int) (w : World) (h : l < (n : Int)) (h0 : 0 ≤ l) (hn : n ≤ maxLen) :
    Calls Try.prog 8 #[.agg #[.int .i64 x.d, .int .i64 x.s, .int .i64 x.t, .int .i64 x.k, .slice A n c], .int .i64 l] w fun e w' => e = .returned (.int .i64 (-1)) ∧ Below w.heap.size w w' := by
  go_enter Try.func8, Try.ntmps8
  go_wp2_with (go_at_call 28; refine (szB_no A n c l _ h h0 hn).mono ?_; rintro e w' ⟨rfl, rfl⟩)
  go_ret
  exact ⟨rfl, by go_grown⟩

/-- What a copy of a frame leaves. -/
def EthOut (x : Eh) (bs : List UInt8) (n : Nat) (w : World) (e : Ending) (w' : World) : Prop :=
  ∃ A c, e = .returned (.agg #[.int .i64 x.d, .int .i64 x.s, .int .i64 x.t, .int .i64 x.k, .slice A n c]) ∧ w'.ownsRow w.heap.size 5 1 (.slice A n c) n (cellsOf bs) ∧ Below w.heap.size w w'

theorem own_set {w : World} {base : Nat} {e : TypeId} {size n : Nat} {v : Value} {xs : List Value} (h : w.ownsRow base e size v n xs) (g j : Nat) (u : Value) (hg : g < base) : (w.setCell ⟨g, j, none⟩ u).ownsRow base e size v n xs :=
  own_grown h (grownBy_set w g j u) (fun k hk => by have := (h.lt k hk).1; simp; omega)
theorem own_set5 {w : World} {base : Nat} {e : TypeId} {size n : Nat} {v : Value} {xs : List Value} (h : w.ownsRow base e size v n xs) (g : Nat) (v0 v1 v2 v3 v4 : Value) (hg : g < base) :
    (((((w.setCell ⟨g, 0, none⟩ v0).setCell ⟨g, 1, none⟩ v1).setCell ⟨g, 2, none⟩ v2).setCell ⟨g, 3, none⟩ v3).setCell ⟨g, 4, none⟩ v4).ownsRow base e size v n xs :=
  own_set (own_set (own_set (own_set (own_set h g 0 v0 hg) g 1 v1 hg) g 2 v2 hg) g 3 v3 hg) g 4 v4 hg
theorem toBn (A : Option Addr) (n c : Nat) (bs : List UInt8) (w : World) (hr : RB w w.heap.size A bs) (hl : bs.length = n) (hn : n ≤ 1048576) :
    Calls Try.prog 22 #[.slice A n c] w fun e w' => ∃ D d, e = .returned (.slice D n d) ∧ w'.ownsRow w.heap.size 5 1 (.slice D n d) n (cellsOf bs) ∧ Below w.heap.size w w' := by
  subst hl
  exact (toB A c bs w hr hn).mono fun e w' ⟨he, ho, hb⟩ => ⟨_, _, he, ho, hb⟩

set_option maxHeartbeats 1000000 in
theorem toEthC (x : Eh) (A : Option Addr) (n c : Nat) (bs : List UInt8) (w : World) (hr : RB w w.heap.size A bs) (hl : bs.length = n) (hn : n ≤ 1048576) :
    Calls Try.prog 10 #[.agg #[.int .i64 x.d, .int .i64 x.s, .int .i64 x.t, .int .i64 x.k, .slice A n c]] w (EthOut x bs n w) := by
  have HL := Lib.hid hl
  have hr3 : ∀ o1 o2 o3, RB (((w.alloc o1).alloc o2).alloc o3) (((w.alloc o1).alloc o2).alloc o3).heap.size A bs := fun o1 o2 o3 => (hr.below (Joins.below_alloc3 w o1 o2 o3)).more (by simp; omega)
  have HR := Lib.hid hr3
  clear hl hr hr3
  go_enter Try.func10, Try.ntmps10
  go_wp2_with fail
  refine (toBn A n c bs _ (HR.out _ _ _) HL.out hn).mono ?_
  rintro e w1 ⟨D, d, rfl, o1, b1⟩
  have q2 := Lib.hid (K.on b1 (g := w.heap.size + 1) (by simp) (K.old (by have := K.new (w.alloc (.cells #[.int .i64 x.d, .int .i64 x.s, .int .i64 x.t, .int .i64 x.k, .slice A n c] 24)) (.cells #[.int .i64 0, .int .i64 0, .int .i64 0, .int .i64 0, .slice none 0 0] 27); simpa using this) _))
  have q3 := Lib.hid (K.on b1 (g := w.heap.size + 1 + 1) (by simp) (by have := K.new ((w.alloc (.cells #[.int .i64 x.d, .int .i64 x.s, .int .i64 x.t, .int .i64 x.k, .slice A n c] 24)).alloc (.cells #[.int .i64 0, .int .i64 0, .int .i64 0, .int .i64 0, .slice none 0 0] 27)) (.cells #[.int .i64 x.d, .int .i64 x.s, .int .i64 x.t, .int .i64 x.k, .slice none 0 0] 27); simpa using this))
  have B1 := Lib.hid (bthen (Joins.below_alloc3 w _ _ _) b1)
  have O1 := Lib.hid (own_base o1 (show w.heap.size + 3 ≤ _ by simp))
  clear o1 b1
  obtain ⟨⟨c0, c1, c2, c3, c4⟩, f0, f1, f2, f3, f4⟩ := K.row5 q2.out
  obtain ⟨⟨d0, d1, d2, d3, d4⟩, g0, g1, g2, g3, g4⟩ := K.row5 q3.out
  go_wp2
  (try simp only [Exit.inBlock, Exit.then])
  refine bodyPost_ret (v := .agg #[.int .i64 x.d, .int .i64 x.s, .int .i64 x.t, .int .i64 x.k, .slice D n d]) ?_ rfl ⟨D, d, rfl, own_base (own_set5 (own_set O1.out _ 4 _ (by omega)) _ _ _ _ _ _ (by omega)) (by omega), ?_⟩
  · refine K.resCell Try.results10 _ _ _ (w.heap.size + 1) _ ?_ (run_loadVar_row _ _ 27 27 _ (0, 0) _ (K.set5 _ _ _ _ _ (K.other q2.out _ _ _ (by omega))) Try.underlying27 rfl info_eth)
    rfl
  · have := B1.out
    go_grown

set_option maxHeartbeats 1000000 in
theorem eqEthC (x : Eh) (A D : Option Addr) (n c d : Nat) (bs : List UInt8) (w : World) (hx : RB w w.heap.size A bs) (hy : RB w w.heap.size D bs) (hl : bs.length = n) (hn : n ≤ 1048576) :
    Calls Try.prog 12 #[.agg #[.int .i64 x.d, .int .i64 x.s, .int .i64 x.t, .int .i64 x.k, .slice A n c], .agg #[.int .i64 x.d, .int .i64 x.s, .int .i64 x.t, .int .i64 x.k, .slice D n d]] w fun e w' => e = .returned (.bool true) ∧ Below w.heap.size w w' := by
  have HL := Lib.hid hl
  have hx2 : ∀ o1 o2, RB ((w.alloc o1).alloc o2) ((w.alloc o1).alloc o2).heap.size A bs := fun o1 o2 => (hx.below (Joins.below_alloc2 w o1 o2)).more (by simp; omega)
  have hy2 : ∀ o1 o2, RB ((w.alloc o1).alloc o2) ((w.alloc o1).alloc o2).heap.size D bs := fun o1 o2 => (hy.below (Joins.below_alloc2 w o1 o2)).more (by simp; omega)
  have HX := Lib.hid hx2
  have HY := Lib.hid hy2
  clear hl hx hy hx2 hy2
  go_enter Try.func12, Try.ntmps12
  go_wp2_with fail
  refine (eqBn A D n c d bs _ (HX.out _ _) (HY.out _ _) HL.out hn).mono ?_
  rintro e w1 ⟨rfl, b1⟩
  go_wp2
  go_ret
  exact ⟨rfl, bthen (Joins.below_alloc2 w _ _) b1⟩

set_option maxHeartbeats 1000000 in
theorem markEthC (x : Eh) (A : Option Addr) (n c base : Nat) (bs : List UInt8) (k : Int) (w : World) (hown : w.ownsRow base 5 1 (.slice A n c) n (cellsOf bs)) (hn : n ≤ 1048576) (h0 : 0 ≤ k) (hk : k ≤ 1048576) :
    Calls Try.prog 18 #[.agg #[.int .i64 x.d, .int .i64 x.s, .int .i64 x.t, .int .i64 x.k, .slice A n c], .int .i64 k] w fun e w' => e = .returned (.int .i64 (k + n)) ∧
      w'.ownsRow base 5 1 (.slice A n c) n (cellsOf (marks k.toNat n)) ∧ w.grownBy w' (Value.slice A n c).ownBlock := by
  have HO := Lib.hid (fun o : Obj => hown.alloc o)
  clear hown
  go_enter Try.func18, Try.ntmps18
  go_wp2_with fail
  refine (markBn A n c base bs k _ (HO.out _) hn h0 hk).mono ?_
  rintro e w1 ⟨rfl, o1, g1⟩
  have g2 := Lib.hid (grownBy_trans (only_new (K.refl w _) _) g1)
  clear g1
  go_wp2
  go_ret
  exact ⟨rfl, o1, g2.out⟩

set_option maxHeartbeats 1000000 in
theorem heldEthC (x : Eh) (A : Option Addr) (n c : Nat) (k : Int) (w : World) (hr : RB w w.heap.size A (marks k.toNat n)) (hn : n ≤ 1048576) (h0 : 0 ≤ k) (hk : k ≤ 1048576) :
    Calls Try.prog 24 #[.agg #[.int .i64 x.d, .int .i64 x.s, .int .i64 x.t, .int .i64 x.k, .slice A n c], .int .i64 k] w fun e w' => e = .returned (.int .i64 (k + n)) ∧ Below w.heap.size w w' := by
  have HR := Lib.hid (fun o : Obj => (hr.below (Joins.below_alloc1 w o)).more (show w.heap.size ≤ (w.alloc o).heap.size by simp))
  clear hr
  go_enter Try.func24, Try.ntmps24
  go_wp2_with fail
  refine (heldBn A n c k _ (HR.out _) hn h0 hk).mono ?_
  rintro e w1 ⟨rfl, rfl⟩
  go_wp2
  go_ret
  exact ⟨rfl, Joins.below_alloc1 w _⟩
end Go.Proofs.Ytaemonjiejgciaa
