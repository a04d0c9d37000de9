/-
  The model's draws of prefixes.
-/
import Derived.Test.YtdndanbalmoklaaAddrDraw3
import Derived.Test.YtdndanbalmoklaaCutSpec2
import Derived.Test.YtdndanbalmoklaaPfxSpec
namespace Go.Proofs.Ytdndanbalmoklaa
set_option maxRecDepth 100000
open Go.RowKit

/-- The cells of a block of six that may be written. -/
theorem row6d {w : World} {g : Nat} {v0 v1 v2 v3 v4 v5 : Value} {t : TypeId} (h : w.heap[g]? = some (.cells #[v0, v1, v2, v3, v4, v5] t (0, 0))) :
    (w.cell? ⟨g, 0, none⟩ = some v0 ∧ w.cell? ⟨g, 1, none⟩ = some v1 ∧ w.cell? ⟨g, 2, none⟩ = some v2 ∧ w.cell? ⟨g, 3, none⟩ = some v3 ∧ w.cell? ⟨g, 4, none⟩ = some v4 ∧ w.cell? ⟨g, 5, none⟩ = some v5) ∧
      (w.frozen? ⟨g, 0, none⟩ = false ∧ w.frozen? ⟨g, 1, none⟩ = false ∧ w.frozen? ⟨g, 2, none⟩ = false ∧ w.frozen? ⟨g, 3, none⟩ = false ∧ w.frozen? ⟨g, 4, none⟩ = false ∧ w.frozen? ⟨g, 5, none⟩ = false) :=
  ⟨⟨cell_of_row w g 0 _ _ _ h, cell_of_row w g 1 _ _ _ h, cell_of_row w g 2 _ _ _ h, cell_of_row w g 3 _ _ _ h, cell_of_row w g 4 _ _ _ h, cell_of_row w g 5 _ _ _ h⟩,
    ⟨frozen_of_row w g 0 _ _ h, frozen_of_row w g 1 _ _ h, frozen_of_row w g 2 _ _ h, frozen_of_row w g 3 _ _ h, frozen_of_row w g 4 _ _ h, frozen_of_row w g 5 _ _ h⟩⟩
theorem set6d {w : World} {g : Nat} {a0 a1 a2 a3 a4 a5 : Value} {t : TypeId} (v0 v1 v2 v3 v4 v5 : Value) (h : w.heap[g]? = some (.cells #[a0, a1, a2, a3, a4, a5] t (0, 0))) :
    ((((((w.setCell ⟨g, 0, none⟩ v0).setCell ⟨g, 1, none⟩ v1).setCell ⟨g, 2, none⟩ v2).setCell ⟨g, 3, none⟩ v3).setCell ⟨g, 4, none⟩ v4).setCell ⟨g, 5, none⟩ v5).heap[g]? = some (.cells #[v0, v1, v2, v3, v4, v5] t (0, 0)) :=
  heap_setCell_same _ g 5 #[v0, v1, v2, v3, v4, a5] t v5 (heap_setCell_same _ g 4 #[v0, v1, v2, v3, a4, a5] t v4 (heap_setCell_same _ g 3 #[v0, v1, v2, a3, a4, a5] t v3 (heap_setCell_same _ g 2 #[v0, v1, a2, a3, a4, a5] t v2 (heap_setCell_same _ g 1 #[v0, a1, a2, a3, a4, a5] t v1 (heap_setCell_same _ g 0 _ t v0 h)))))
theorem grown6 {W w : World} {g r : Nat} {v0 v1 v2 v3 v4 v5 : Value} (h : W.grownBy w (some g)) (hr : W.heap.size ≤ r) : W.grownBy ((((((w.setCell ⟨r, 0, none⟩ v0).setCell ⟨r, 1, none⟩ v1).setCell ⟨r, 2, none⟩ v2).setCell ⟨r, 3, none⟩ v3).setCell ⟨r, 4, none⟩ v4).setCell ⟨r, 5, none⟩ v5) (some g) := by
  have s := fun (a : World) (h : W.grownBy a (some g)) (i : Nat) (v : Value) => grown_other h (grownBy_set a r i v) (fun u hu => by cases hu; exact hr)
  exact s _ (s _ (s _ (s _ (s _ (s _ h 0 v0) 1 v1) 2 v2) 3 v3) 4 v4) 5 v5
theorem cur6 {w : World} {g r : Nat} {A : Option Addr} {c : Nat} {bs : List UInt8} {t : Nat} {v0 v1 v2 v3 v4 v5 : Value} (h : Cur w g A c bs t) (hr : g < r) : Cur ((((((w.setCell ⟨r, 0, none⟩ v0).setCell ⟨r, 1, none⟩ v1).setCell ⟨r, 2, none⟩ v2).setCell ⟨r, 3, none⟩ v3).setCell ⟨r, 4, none⟩ v4).setCell ⟨r, 5, none⟩ v5) g A c bs t := by
  have s := fun (a : World) (h : Cur a g A c bs t) (i : Nat) (v : Value) => h.grownBy (grownBy_set a r i v) (fun u hu => by cases hu; exact hr)
  exact s _ (s _ (s _ (s _ (s _ (s _ h 0 v0) 1 v1) 2 v2) 3 v3) 4 v4) 5 v5
theorem set5of6 {w : World} {g : Nat} {a0 a1 a2 a3 a4 a5 : Value} {t : TypeId} (v0 v1 v2 v3 v4 : Value) (h : w.heap[g]? = some (.cells #[a0, a1, a2, a3, a4, a5] t (0, 0))) :
    (((((w.setCell ⟨g, 0, none⟩ v0).setCell ⟨g, 1, none⟩ v1).setCell ⟨g, 2, none⟩ v2).setCell ⟨g, 3, none⟩ v3).setCell ⟨g, 4, none⟩ v4).heap[g]? = some (.cells #[v0, v1, v2, v3, v4, a5] t (0, 0)) :=
  heap_setCell_same _ g 4 #[v0, v1, v2, v3, a4, a5] t v4 (heap_setCell_same _ g 3 #[v0, v1, v2, a3, a4, a5] t v3 (heap_setCell_same _ g 2 #[v0, v1, a2, a3, a4, a5] t v2 (heap_setCell_same _ g 1 #[v0, a1, a2, a3, a4, a5] t v1 (heap_setCell_same _ g 0 _ t v0 h))))
theorem row_past5 {w : World} {g r : Nat} {o : Obj} (v0 v1 v2 v3 v4 : Value) (hne : r ≠ g) (h : w.heap[r]? = some o) :
    (((((w.setCell ⟨g, 0, none⟩ v0).setCell ⟨g, 1, none⟩ v1).setCell ⟨g, 2, none⟩ v2).setCell ⟨g, 3, none⟩ v3).setCell ⟨g, 4, none⟩ v4).heap[r]? = some o := by
  rw [heap_setCell_other _ ⟨g, 4, none⟩ r _ hne, heap_setCell_other _ ⟨g, 3, none⟩ r _ hne, heap_setCell_other _ ⟨g, 2, none⟩ r _ hne, heap_setCell_other _ ⟨g, 1, none⟩ r _ hne, heap_setCell_other _ ⟨g, 0, none⟩ r _ hne, h]
theorem info_pfxd : (Try.prog.info? 31).map (·.size) = some 6 := by kernel_rfl
theorem grown_below {a b c : World} {row : Option Nat} (h : a.grownBy b row) (k : Below b.heap.size b c) : a.grownBy c row :=
  ⟨k.os.trans h.os, k.tape.trans h.tape, k.output.trans h.output, Nat.le_trans h.size k.size, fun i hi hne => (k.block i (Nat.lt_of_lt_of_le hi h.size)).trans (h.block i hi hne)⟩
/-- An address laid into the first five cells of a block of six, as one step. -/
theorem wpList_store_s {w : World} {ops : Array Oper} {rest : List Oper} {o : Oper} {a : Act} {Q : Exit → Act → World → Prop} (hgd : o.guard = none) (hd : o.dst = none) (x y : Operand) (ho : o.op = .store 29 x y) (g : Nat) (z : Ad) (p : Pf)
    (hx : a.eval x = .pointer (some ⟨g, 0, none⟩)) (hy : a.eval y = .agg #[.int .i64 z.k, .int .i64 z.a, .int .i64 z.b, .int .i64 z.c, .int .i64 z.d]) (hr : w.heap[g]? = some (.cells #[.int .i64 p.base.k, .int .i64 p.base.a, .int .i64 p.base.b, .int .i64 p.base.c, .int .i64 p.base.d, .int .i64 p.len] 31 (0, 0)))
    (h : ∀ w5, Hid (w5 = (((((w.setCell ⟨g, 0, none⟩ (.int .i64 z.k)).setCell ⟨g, 1, none⟩ (.int .i64 z.a)).setCell ⟨g, 2, none⟩ (.int .i64 z.b)).setCell ⟨g, 3, none⟩ (.int .i64 z.c)).setCell ⟨g, 4, none⟩ (.int .i64 z.d))) → wpList Try.prog ops Q rest a w5) :
    wpList Try.prog ops Q (o :: rest) a w := by
  refine wpList_plain hgd fun K hK => ?_
  obtain ⟨⟨c0, c1, c2, c3, c4, c5⟩, f0, f1, f2, f3, f4, f5⟩ := row6d hr
  have h2 := hK _ _ (h _ (Lib.hid rfl))
  clear hr h hK
  unfold Oper.wp execOp
  simp only [ho, hx, hy]
  go_simp
  cases o
  cases hd
  exact h2

/-- What a draw of a prefix leaves. -/
def PfDrawn (w : World) (g : Nat) (A : Option Addr) (c : Nat) (bs : List UInt8) (t : Nat) (e : Ending) (w' : World) : Prop :=
  ∃ (p : Pf) (t' : Nat), e = .returned (.agg #[.int .i64 p.base.k, .int .i64 p.base.a, .int .i64 p.base.b, .int .i64 p.base.c, .int .i64 p.base.d, .int .i64 p.len]) ∧ t' ≤ t ∧ Cur w' g A c bs t' ∧ w.grownBy w' (some g)
theorem cells13 (w : World) (x : Int) (j : Nat) (h : j < 13) : ∃ z : Int, (w.alloc (.cells #[.int .i64 8, .int .i64 16, .int .i64 24, .int .i64 28, .int .i64 30, .int .i64 31, .int .i64 32, .int .i64 64, .int .i64 96, .int .i64 0, .int .i64 120, .int .i64 128, .int .i64 x] 3)).cell? ⟨w.heap.size, j, none⟩ = some (.int .i64 z) := by
  rw [cell_of_row _ w.heap.size j _ 3 (0, 0) (heap_alloc_new w _)]
  match j, h with
  | 0, _ => exact ⟨_, rfl⟩
  | 1, _ => exact ⟨_, rfl⟩
  | 2, _ => exact ⟨_, rfl⟩
  | 3, _ => exact ⟨_, rfl⟩
  | 4, _ => exact ⟨_, rfl⟩
  | 5, _ => exact ⟨_, rfl⟩
  | 6, _ => exact ⟨_, rfl⟩
  | 7, _ => exact ⟨_, rfl⟩
  | 8, _ => exact ⟨_, rfl⟩
  | 9, _ => exact ⟨_, rfl⟩
  | 10, _ => exact ⟨_, rfl⟩
  | 11, _ => exact ⟨_, rfl⟩
  | 12, _ => exact ⟨_, rfl⟩

set_option maxHeartbeats 2000000 in
theorem prefixC (w : World) (g : Nat) (A : Option Addr) (c : Nat) (bs : List UInt8) (t : Nat) (k : Int) (hc : Cur w g A c bs t) (ht : t ≤ 800000000000) :
    Calls Try.prog 172 #[.pointer (some ⟨g, 0, none⟩), .int .i64 k] w (PfDrawn w g A c bs (t + 120)) := by
  have hgw := hc.lt
  have HC := Lib.hid (fun o : Obj => hc.below (Joins.below_alloc1 w o))
  have HR := Lib.hid (Go.heap_alloc_last w (.cells #[.int .i64 0, .int .i64 0, .int .i64 0, .int .i64 0, .int .i64 0, .int .i64 0] 31))
  have HG := Lib.hid (only_new (grown_refl w (some g)) (.cells #[.int .i64 0, .int .i64 0, .int .i64 0, .int .i64 0, .int .i64 0, .int .i64 0] 31))
  have hrg : w.heap.size ≠ g := by omega
  go_enter Try.func172, Try.ntmps172
  go_wp2_with fail
  refine (onceC _ g A c bs t 5 (by omega) (by omega) (HC.out _) (by omega)).mono ?_
  rintro e w1 ⟨b, rfl, hc1, hg1⟩
  have HG1 := Lib.hid (grownBy_trans HG.out hg1)
  have HR1 := Lib.hid (row_kept hg1 hrg HR.out)
  clear hg1
  cases b
  · go_wp2_with fail
    refine (addrC _ g A c bs (t + 1) k hc1 (by omega)).mono ?_
    rintro e w2 ⟨x, t2, rfl, ht2, hc2, hg2⟩
    have HG2 := Lib.hid (grownBy_trans HG1.out hg2)
    have HR2 := Lib.hid (row_kept hg2 hrg HR1.out)
    have hz2 : w.heap.size < w2.heap.size := row_lt HR2.out
    have hg2l := hc2.lt
    have HC2 := Lib.hid (fun o : Obj => hc2.below (Joins.below_alloc1 w2 o))
    have hbg : w2.heap.size ≠ g := by omega
    clear hg2 hc1 hc2
    go_wp2_with fail
    refine (specBits x _).mono ?_
    rintro e w3 ⟨rfl, b3⟩
    have C3 := Lib.hid ((HC2.out _).below b3)
    have HG3 := Lib.hid (grown_below (only_new HG2.out _) b3)
    have HR3 := Lib.hid (row_on b3 (row_lt (row_on (Joins.below_alloc1 w2 _) (row_lt HR2.out) HR2.out)) (row_on (Joins.below_alloc1 w2 _) (row_lt HR2.out) HR2.out))
    have HB3 := Lib.hid (row_on b3 (row_lt (Go.heap_alloc_last w2 (.cells #[.int .i64 x.k, .int .i64 x.a, .int .i64 x.b, .int .i64 x.c, .int .i64 x.d] 29))) (Go.heap_alloc_last w2 (.cells #[.int .i64 x.k, .int .i64 x.a, .int .i64 x.b, .int .i64 x.c, .int .i64 x.d] 29)))
    clear b3
    go_wp2_with fail
    refine (pickC _ g A c bs t2 129 (by omega) (by omega) C3.out (by omega)).mono ?_
    rintro e w4 ⟨y, rfl, y0, y1, hc4, hg4⟩
    have HG4 := Lib.hid (grownBy_trans HG3.out hg4)
    have HR4 := Lib.hid (row_kept hg4 hrg HR3.out)
    have HB4 := Lib.hid (row_kept hg4 hbg HB3.out)
    have HL4 := Lib.hid hc4.lt
    have C4 := Lib.hid (fun o : Obj => hc4.below (Joins.below_alloc1 w4 o))
    clear hg4 hc4
    go_wp2_with fail
    refine (pickC _ g A c bs (t2 + 1) 13 (by omega) (by omega) (C4.out _) (by omega)).mono ?_
    rintro e w5 ⟨j, rfl, j0, j1, hc5, hg5⟩
    obtain ⟨j, rfl⟩ : ∃ i : Nat, j = i := ⟨j.toNat, by omega⟩
    have hj13 : (j : Int) < 13 := by omega
    obtain ⟨z, hz⟩ := cells13 w4 y j (by omega)
    have hz5 : w5.cell? ⟨w4.heap.size, j, none⟩ = some (.int .i64 z) := hg5.cell hz (fun e => by have := HL4.out; have h2 : w4.heap.size = g := Option.some.inj e; omega)
    have HG5 := Lib.hid (grownBy_trans (only_new HG4.out _) hg5)
    have HR5 := Lib.hid (row_kept hg5 hrg (row_on (Joins.below_alloc1 w4 _) (row_lt HR4.out) HR4.out))
    have HB5 := Lib.hid (row_kept hg5 hbg (row_on (Joins.below_alloc1 w4 _) (row_lt HB4.out) HB4.out))
    obtain ⟨⟨c0, c1, c2, c3, c4⟩, f0, f1, f2, f3, f4⟩ := row5 HB5.out
    have HC5 := Lib.hid hc5
    clear hz hg5 hc5
    go_wp2_with fail
    all_goals
      refine (specCut x _ _).mono ?_
      rintro e w6 ⟨rfl, b6⟩
      have C6 := Lib.hid (HC5.out.below b6)
      have HG6 := Lib.hid (grown_below HG5.out b6)
      have HR6 := Lib.hid (row_on b6 (row_lt HR5.out) HR5.out)
      obtain ⟨⟨d0, d1, d2, d3, d4, d5⟩, k0, k1, k2, k3, k4, k5⟩ := row6d HR6.out
      clear b6 c0 c1 c2 c3 c4 f0 f1 f2 f3 f4 hz5
      go_wp2
      (try simp only [Exit.inBlock, Exit.then])
      first
        | (refine bodyPost_ret (v := .agg #[.int .i64 (Pf.mk (x.cut z) z).base.k, .int .i64 (Pf.mk (x.cut z) z).base.a, .int .i64 (Pf.mk (x.cut z) z).base.b, .int .i64 (Pf.mk (x.cut z) z).base.c, .int .i64 (Pf.mk (x.cut z) z).base.d, .int .i64 (Pf.mk (x.cut z) z).len]) ?_ rfl ⟨⟨x.cut z, z⟩, t2 + 1 + 1, rfl, by omega, cur6 C6.out (by omega), grown6 HG6.out (Nat.le_refl _)⟩; refine res_cell Try.results172 _ _ _ w.heap.size _ ?_ (run_loadVar_row _ _ 31 31 _ (0, 0) _ (set6d _ _ _ _ _ _ HR6.out) Try.underlying31 rfl info_pfxd); rfl)
        | (refine bodyPost_ret (v := .agg #[.int .i64 (Pf.mk (x.cut x.bits) x.bits).base.k, .int .i64 (Pf.mk (x.cut x.bits) x.bits).base.a, .int .i64 (Pf.mk (x.cut x.bits) x.bits).base.b, .int .i64 (Pf.mk (x.cut x.bits) x.bits).base.c, .int .i64 (Pf.mk (x.cut x.bits) x.bits).base.d, .int .i64 (Pf.mk (x.cut x.bits) x.bits).len]) ?_ rfl ⟨⟨x.cut x.bits, x.bits⟩, t2 + 1 + 1, rfl, by omega, cur6 C6.out (by omega), grown6 HG6.out (Nat.le_refl _)⟩; refine res_cell Try.results172 _ _ _ w.heap.size _ ?_ (run_loadVar_row _ _ 31 31 _ (0, 0) _ (set6d _ _ _ _ _ _ HR6.out) Try.underlying31 rfl info_pfxd); rfl)
  · obtain ⟨⟨c0, c1, c2, c3, c4, c5⟩, f0, f1, f2, f3, f4, f5⟩ := row6d HR1.out
    have HC1 := Lib.hid hc1
    clear hc1
    go_wp2
    (try simp only [Exit.inBlock, Exit.then])
    refine bodyPost_ret (v := .agg #[.int .i64 Pf.zero.base.k, .int .i64 Pf.zero.base.a, .int .i64 Pf.zero.base.b, .int .i64 Pf.zero.base.c, .int .i64 Pf.zero.base.d, .int .i64 Pf.zero.len]) ?_ rfl ⟨Pf.zero, t + 1, rfl, by omega, cur6 HC1.out (by omega), grown6 HG1.out (Nat.le_refl _)⟩
    refine res_cell Try.results172 _ _ _ w.heap.size _ ?_ (run_loadVar_row _ _ 31 31 _ (0, 0) _ (set6d _ _ _ _ _ _ HR1.out) Try.underlying31 rfl info_pfxd)
    rfl

/-- What the slots hold while the length of a prefix in block b is lowered by a drawn number. -/
def GB (g b : Nat) (j : Nat) (v : Value) : Prop := match j with
  | 0 => v = .pointer (some ⟨b, 5, none⟩)
  | 1 => ∃ x : Int, v = .int .i64 x
  | 2 => v = .pointer (some ⟨g, 0, none⟩)
  | 3 => ∃ x : Int, v = .int .i64 x
  | 4 => ∃ x : Int, v = .int .i64 x
  | 5 => ∃ x : Int, v = .int .i64 x
  | 6 => v = .pointer (some ⟨b, 5, none⟩)
  | _ => True
def InRegP (W : World) (g b r : Nat) (A : Option Addr) (c : Nat) (bs : List UInt8) (t : Nat) (p : Pf) (k : Nat) (w : World) : Prop :=
  (∃ t', t' ≤ t + 4 * k ∧ Cur w g A c bs t') ∧ (∃ l : Int, w.heap[b]? = some (.cells #[.int .i64 p.base.k, .int .i64 p.base.a, .int .i64 p.base.b, .int .i64 p.base.c, .int .i64 p.base.d, .int .i64 l] 31 (0, 0))) ∧ w.heap[r]? = some (.cells #[.int .i64 0, .int .i64 0, .int .i64 0, .int .i64 0, .int .i64 0, .int .i64 0] 31 (0, 0)) ∧ W.grownBy w (some g)
section
variable {W w w' : World} {g b r : Nat} {A : Option Addr} {c : Nat} {bs : List UInt8} {t k : Nat} {p : Pf}
theorem InRegP.more (h : InRegP W g b r A c bs t p k w) : InRegP W g b r A c bs t p (k + 1) w := by
  obtain ⟨⟨t', h1, h2⟩, h3, h4⟩ := h
  exact ⟨⟨t', by omega, h2⟩, h3, h4⟩
theorem InRegP.drawn (h : InRegP W g b r A c bs t p k w) (hg : w.grownBy w' (some g)) (hbg : b ≠ g) (hrg : r ≠ g) {t' : Nat} (ht : t' ≤ t + 4 * (k + 1)) (hc : Cur w' g A c bs t') : InRegP W g b r A c bs t p (k + 1) w' := by
  obtain ⟨_, ⟨x, hx⟩, hy, h4⟩ := h
  exact ⟨⟨t', ht, hc⟩, ⟨x, row_kept hg hbg hx⟩, row_kept hg hrg hy, grownBy_trans h4 hg⟩
variable {o : Oper} {a : Act} {K : Act → World → Prop} {Q : Exit → Act → World → Prop}
theorem s_fldLen (x : Operand) (b : Nat) (ho : o.op = .fieldAddr 31 x 1) (hx : a.eval x = .pointer (some ⟨b, 0, none⟩)) (hK : K (a.put o.dst (.pointer (some ⟨b, 5, none⟩))) w) : o.wp Try.prog a w K Q := by
  unfold Oper.wp execOp
  simp only [ho, hx]
  go_simp
  exact hK
theorem s_max (x y : Operand) (ts : Array TypeId) (m n : Int) (ho : o.op = .call { callee := .builtin .max, args := #[x, y], argTypes := ts }) (hx : a.eval x = .int .i64 m) (hy : a.eval y = .int .i64 n) (hK : ∀ z : Int, K (a.put o.dst (.int .i64 z)) w) : o.wp Try.prog a w K Q := by
  unfold Oper.wp execOp
  simp only [ho, resolve, List.map_toArray, List.map_cons, List.map_nil, hx, hy]
  go_simp
  exact hK _
theorem s_storeI (x y : Operand) (b j : Nat) (z : Int) (old : Value) (ho : o.op = .store 3 x y) (hx : a.eval x = .pointer (some ⟨b, j, none⟩)) (hy : a.eval y = .int .i64 z) (hc : w.cell? ⟨b, j, none⟩ = some old) (hf : w.frozen? ⟨b, j, none⟩ = false)
    (hK : K (a.put o.dst undef) (w.setCell ⟨b, j, none⟩ (.int .i64 z))) : o.wp Try.prog a w K Q := by
  unfold Oper.wp execOp
  simp only [ho, hx, hy]
  go_simp
  exact hK
end

end Go.Proofs.Ytdndanbalmoklaa
