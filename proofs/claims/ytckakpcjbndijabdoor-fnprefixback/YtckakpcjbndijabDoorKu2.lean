/-
  Texts of the proof, joined: PfxDraw2, PfxDraw3, Str, NumText, NumLib, HexText, HexLib, Sum, TextLib, ReadLib, ReadLib2, NumRead, HexRead, ValueSpec, ReadLib3, Shelf2, TextSpec, Hex16, Shelf, NumImpl, Row, Ints, SumImpl, TextImpl, SplitImpl, TextImpl2, PfxText, PfxReadLib.
-/
import Derived.Laws.BytesArg
import Derived.StillTailTactics
import Derived.Laws.BitsAllLaws
import Derived.Laws.BitsLemmas
import Derived.Lib.OthersKept
import Derived.BigQuiet
import Derived.Shelf.Strings.Search1
import Derived.Shelf.Strings.Search2
import Derived.Shelf.Strings.Search3
import Derived.Shelf.Strings.Cut
import Derived.Shelf.Strings.Count
import Derived.Shelf.Strings.Split
import Derived.Test.YtckakpcjbndijabDoorProg
import Derived.Lib.QuietBelow
import Derived.Shelf.Strings.Builder1
import Derived.Shelf.Strings.Builder2
import Derived.Shelf.Strings.OnBuilder
import Derived.Shelf.Strconv.Itoa0
import Derived.Shelf.Strconv.Itoa1
import Derived.Shelf.LaysM
import Derived.Shelf.Strconv.Itoa2
import Derived.Shelf.Strconv.Itoa3
import Derived.WalkSmall
import Derived.Lib.LaidTab
import Derived.Deep.QuietTactic
import Derived.ProofKit
import Derived.OpenShut
import Derived.Test.YtckakpcjbndijabDoorKu1
namespace Go.Proofs.YtckakpcjbndijabDoor
open Go.RowKit

set_option maxRecDepth 100000 in
theorem s_fldBase {o : Oper} {a : Act} {w : World} {K : Act → World → Prop} {Q : Exit → Act → World → Prop} (x : Operand) (b : Nat) (ho : o.op = .fieldAddr 36 x 0) (hx : a.eval x = .pointer (some ⟨b, 0, none⟩)) (hK : K (a.put o.dst (.pointer (some ⟨b, 0, none⟩))) w) : o.wp Tryd.prog a w K Q := by
  unfold Oper.wp execOp
  simp only [ho, hx]
  go_simp
  exact hK

set_option maxRecDepth 100000 in
set_option maxHeartbeats 1000000 in
theorem badPrefixC (w : World) (g : Nat) (A : Option Addr) (c : Nat) (bs : List UInt8) (t : Nat) (hc : Cur w g A c bs t) (ht : t ≤ 700000000000) :
    Calls Tryd.prog 54 #[.pointer (some ⟨g, 0, none⟩)] w (PfDrawn w g A c bs (t + 240)) := by
  have hgw := hc.lt
  have HC := Lib.hid (fun o : Obj => hc.below (Joins.below_alloc1 w o))
  have HR := Lib.hid (Go.heap_alloc_last w (.cells #[.int .i64 0, .int .i64 0, .int .i64 0, .int .i64 0, .int .i64 0, .int .i64 0] 36))
  have HG := Lib.hid (only_new (grown_refl w (some g)) (.cells #[.int .i64 0, .int .i64 0, .int .i64 0, .int .i64 0, .int .i64 0, .int .i64 0] 36))
  have hrg : w.heap.size ≠ g := by omega
  go_enter Tryd.func54, Tryd.ntmps54
  go_wp2_with fail
  refine (kindC _ g A c bs t (HC.out _) (by omega)).mono ?_
  rintro e w1 ⟨k, rfl, hc1, hg1⟩
  have HG1 := Lib.hid (grownBy_trans HG.out hg1)
  have HR1 := Lib.hid (row_kept hg1 hrg HR.out)
  clear hg1
  go_wp2_with fail
  refine (prefixC _ g A c bs (t + 1) k hc1 (by omega)).mono ?_
  rintro e w2 ⟨p, t2, rfl, ht2, hc2, hg2⟩
  have HG2 := Lib.hid (grownBy_trans HG1.out hg2)
  have HR2 := Lib.hid (row_kept hg2 hrg HR1.out)
  have hz2 : w.heap.size < w2.heap.size := row_lt HR2.out
  have hg2l := hc2.lt
  have HC2 := Lib.hid (fun o : Obj => hc2.below (Joins.below_alloc1 w2 o))
  have hbg : w2.heap.size ≠ g := by omega
  have hrb : w.heap.size ≠ w2.heap.size := by omega
  clear hg2 hc1 hc2
  go_wp2_with fail
  refine (pickC _ g A c bs t2 6 (by omega) (by omega) (HC2.out _) (by omega)).mono ?_
  rintro e w3 ⟨y, rfl, y0, y1, hc3, hg3⟩
  have HG3 := Lib.hid (grownBy_trans (only_new HG2.out _) hg3)
  have HR3 := Lib.hid (row_kept hg3 hrg (row_on (Joins.below_alloc1 w2 _) (row_lt HR2.out) HR2.out))
  have HB3 := Lib.hid (row_kept hg3 hbg (Go.heap_alloc_last w2 (.cells #[.int .i64 p.base.k, .int .i64 p.base.a, .int .i64 p.base.b, .int .i64 p.base.c, .int .i64 p.base.d, .int .i64 p.len] 36)))
  clear hg3
  by_cases h0 : y = 0
  · subst h0
    go_wp2_with fail
    refine (rawC _ g A c bs _ hc3 (by omega)).mono ?_
    rintro e w4 ⟨z, rfl, _, hc4, hg4⟩
    have B4 := row_kept hg4 hbg HB3.out
    have R4 := row_kept hg4 hrg HR3.out
    have HG4 := Lib.hid (grownBy_trans HG3.out hg4)
    have B5 := Lib.hid (heap_setCell_same w4 w2.heap.size 5 _ _ (.int .i64 z) B4)
    have R5 := Lib.hid ((heap_setCell_other w4 ⟨w2.heap.size, 5, none⟩ w.heap.size (.int .i64 z) hrb).trans R4)
    obtain ⟨⟨c0, c1, c2, c3, c4, c5⟩, f0, f1, f2, f3, f4, f5⟩ := row6d B4
    have HG5 := Lib.hid (grown_other HG4.out (grownBy_set w4 w2.heap.size 5 (.int .i64 z)) (fun u hu => by cases hu; omega))
    have HC5 := Lib.hid (hc4.grownBy (grownBy_set w4 w2.heap.size 5 (.int .i64 z)) (fun u hu => by cases hu; omega))
    obtain ⟨⟨d0, d1, d2, d3, d4, d5⟩, k0, k1, k2, k3, k4, k5⟩ := row6d (g := w2.heap.size) B5.out
    obtain ⟨⟨r0, r1, r2, r3, r4, r5⟩, q0, q1, q2, q3, q4, q5⟩ := row6d R5.out
    clear B4 R4 hg4 hc4 hc3
    go_wp2
    (try simp only [Exit.inBlock, Exit.then])
    refine bodyPost_ret (v := .agg #[.int .i64 (Pf.mk p.base z).base.k, .int .i64 (Pf.mk p.base z).base.a, .int .i64 (Pf.mk p.base z).base.b, .int .i64 (Pf.mk p.base z).base.c, .int .i64 (Pf.mk p.base z).base.d, .int .i64 (Pf.mk p.base z).len]) ?_ rfl ⟨⟨p.base, z⟩, _, rfl, by omega, cur6 HC5.out (by omega), grown6 HG5.out (Nat.le_refl _)⟩
    refine res_cell Tryd.results54 _ _ _ w.heap.size _ ?_ (run_loadVar_row _ _ 36 36 _ (0, 0) _ (set6d _ _ _ _ _ _ R5.out) Tryd.underlying36 rfl info_pfxd)
    rfl
  · by_cases h1 : y = 1
    · subst h1
      go_wp2_with fail
      refine (badAddrC _ g A c bs _ hc3 (by omega)).mono ?_
      rintro e w4 ⟨x, t4, rfl, ht4, hc4, hg4⟩
      have B4 := row_kept hg4 hbg HB3.out
      have R4 := row_kept hg4 hrg HR3.out
      have HG4 := Lib.hid (grownBy_trans HG3.out hg4)
      have HB4 := Lib.hid B4
      have HC4 := Lib.hid hc4
      obtain ⟨⟨c0, c1, c2, c3, c4, c5⟩, f0, f1, f2, f3, f4, f5⟩ := row6d B4
      have HR4 := Lib.hid R4
      clear B4 R4 hg4 hc4 hc3
      rename_i Ka ha Kb hb
      refine hb _ _ ?_
      clear hb c0 c1 c2 c3 c4 c5 f0 f1 f2 f3 f4 f5
      refine wpList_plain rfl fun K hK => ?_
      refine s_fldBase _ w2.heap.size rfl rfl (hK _ _ ?_)
      clear hK K
      refine wpList_store_s rfl rfl (.tmp 19) (.tmp 18) rfl w2.heap.size x p rfl rfl HB4.out ?_
      intro w5 hw5
      have hB5 := set5of6 (.int .i64 x.k) (.int .i64 x.a) (.int .i64 x.b) (.int .i64 x.c) (.int .i64 x.d) HB4.out
      rw [← hw5.out] at hB5
      have hR5 := row_past5 (g := w2.heap.size) (.int .i64 x.k) (.int .i64 x.a) (.int .i64 x.b) (.int .i64 x.c) (.int .i64 x.d) hrb HR4.out
      rw [← hw5.out] at hR5
      have hG5 := grown5 (r := w2.heap.size) (v0 := .int .i64 x.k) (v1 := .int .i64 x.a) (v2 := .int .i64 x.b) (v3 := .int .i64 x.c) (v4 := .int .i64 x.d) HG4.out (by omega)
      rw [← hw5.out] at hG5
      have hC5 := cur5 (r := w2.heap.size) (v0 := .int .i64 x.k) (v1 := .int .i64 x.a) (v2 := .int .i64 x.b) (v3 := .int .i64 x.c) (v4 := .int .i64 x.d) HC4.out (by omega)
      rw [← hw5.out] at hC5
      have HB5 := Lib.hid hB5
      have HR5 := Lib.hid hR5
      have HG5 := Lib.hid hG5
      have HC5 := Lib.hid hC5
      clear hB5 hR5 hG5 hC5 hw5
      obtain ⟨⟨d0, d1, d2, d3, d4, d5⟩, k0, k1, k2, k3, k4, k5⟩ := row6d HB5.out
      obtain ⟨⟨r0, r1, r2, r3, r4, r5⟩, q0, q1, q2, q3, q4, q5⟩ := row6d HR5.out
      go_wp2
      (try simp only [Exit.inBlock, Exit.then])
      refine bodyPost_ret (v := .agg #[.int .i64 x.k, .int .i64 x.a, .int .i64 x.b, .int .i64 x.c, .int .i64 x.d, .int .i64 p.len]) ?_ rfl ⟨⟨x, p.len⟩, _, rfl, by omega, cur6 HC5.out (by omega), grown6 HG5.out (Nat.le_refl _)⟩
      refine res_cell Tryd.results54 _ _ _ w.heap.size _ ?_ (run_loadVar_row _ _ 36 36 _ (0, 0) _ (set6d _ _ _ _ _ _ HR5.out) Tryd.underlying36 rfl info_pfxd)
      rfl
    · by_cases h2 : y = 2
      · subst h2
        obtain ⟨b, hb⟩ : ∃ b, w2.heap.size = b := ⟨_, rfl⟩
        obtain ⟨r, hr⟩ : ∃ r, w.heap.size = r := ⟨_, rfl⟩
        rw [hb] at hbg hrb hz2 HB3
        rw [hr] at hrg hrb hz2 HR3
        have hgb : g < b := by omega
        have hgr : g < r := by omega
        have hWb : w.heap.size ≤ b := by omega
        have hWr : w.heap.size ≤ r := by omega
        have I0 : Hid (InRegP w g b r A c bs (t2 + 1) p 0 w3.drew) := Lib.hid ⟨⟨t2 + 1, by omega, hc3.drewN 1⟩, ⟨p.len, HB3.out⟩, HR3.out, ⟨HG3.out.os, HG3.out.tape, HG3.out.output, HG3.out.size, HG3.out.block⟩⟩
        have HBb := Lib.hid hb
        have HRr := Lib.hid hr
        clear hc3 hb hr
        go_wp2
        rw [HBb.out, HRr.out]
        refine wp_region_kept (by kernel_rfl) (fun j _ v => GB g b j v) [0, 2, 3] (InRegP w g b r A c bs (t2 + 1) p) (fun _ _ => True) 30 (by kernel_rfl) rfl I0.out (fun j v v' u h hu => hu) ?_ ?_
        · intro j o ho k a' v K hx hn hk8 hI hK
          have hp0 : (.pointer (some ⟨g, 0, none⟩) : Value) = .pointer (some ⟨g, 0, none⟩) := rfl
          have hp3 : (.pointer (some ⟨b, 0, none⟩) : Value) = .pointer (some ⟨b, 0, none⟩) := rfl
          have hk9 : k < 8 := hk8
          match j, ho with
          | 0, ho =>
            obtain rfl := Option.some.inj ho
            exact s_fldLen _ b rfl (out_of hx 3 rfl hp3) (hK _ _ rfl trivial hI.more)
          | 1, ho =>
            obtain rfl := Option.some.inj ho
            have e1 : a'.eval (.tmp 22) = .pointer (some ⟨b, 5, none⟩) := (need_of (Γ := fun j _ v => GB g b j v) (w := v) hn 0 22 (by kernel_rfl) :)
            obtain ⟨_, ⟨l, hl⟩, _⟩ := id hI
            exact s_load 22 b 5 _ rfl e1 (row6d hl).1.2.2.2.2.2 (hK _ _ ⟨l, rfl⟩ trivial hI.more)
          | 2, ho =>
            obtain rfl := Option.some.inj ho
            exact s_move 0 _ rfl (out_of hx 0 rfl hp0) (hK _ _ rfl trivial hI.more)
          | 3, ho =>
            obtain rfl := Option.some.inj ho
            have e1 : a'.eval (.tmp 24) = .pointer (some ⟨g, 0, none⟩) := (need_of (Γ := fun j _ v => GB g b j v) (w := v) hn 2 24 (by kernel_rfl) :)
            obtain ⟨⟨t', ht', hc'⟩, _⟩ := id hI
            refine s_pick 24 _ _ g rfl e1 ((pickC v g A c bs t' 3 (by omega) (by omega) hc' (by omega)).mono ?_)
            rintro e v' ⟨x, rfl, x0, x1, hc2, hg2⟩
            exact ⟨_, rfl, hK _ _ ⟨x, rfl⟩ trivial (hI.drawn hg2 hbg hrg (by omega) hc2)⟩
          | 4, ho =>
            obtain rfl := Option.some.inj ho
            obtain ⟨x0, e0⟩ : ∃ x : Int, a'.eval (.tmp 23) = .int .i64 x := (need_of (Γ := fun j _ v => GB g b j v) (w := v) hn 1 23 (by kernel_rfl) :)
            obtain ⟨x1, e1⟩ : ∃ x : Int, a'.eval (.tmp 25) = .int .i64 x := (need_of (Γ := fun j _ v => GB g b j v) (w := v) hn 3 25 (by kernel_rfl) :)
            exact s_sub _ _ x0 x1 rfl e0 e1 (fun z => hK _ _ ⟨z, rfl⟩ trivial hI.more)
          | 5, ho =>
            obtain rfl := Option.some.inj ho
            obtain ⟨x0, e0⟩ : ∃ x : Int, a'.eval (.tmp 26) = .int .i64 x := (need_of (Γ := fun j _ v => GB g b j v) (w := v) hn 4 26 (by kernel_rfl) :)
            exact s_max _ _ _ 0 x0 rfl rfl e0 (fun z => hK _ _ ⟨z, rfl⟩ trivial hI.more)
          | 6, ho =>
            obtain rfl := Option.some.inj ho
            exact s_fldLen _ b rfl (out_of hx 3 rfl hp3) (hK _ _ rfl trivial hI.more)
          | 7, ho =>
            obtain rfl := Option.some.inj ho
            have e1 : a'.eval (.tmp 28) = .pointer (some ⟨b, 5, none⟩) := (need_of (Γ := fun j _ v => GB g b j v) (w := v) hn 6 28 (by kernel_rfl) :)
            obtain ⟨x0, e0⟩ : ∃ x : Int, a'.eval (.tmp 27) = .int .i64 x := (need_of (Γ := fun j _ v => GB g b j v) (w := v) hn 5 27 (by kernel_rfl) :)
            obtain ⟨⟨t', ht', hc'⟩, ⟨l, hl⟩, hr0, h4⟩ := id hI
            exact s_storeI _ _ b 5 x0 (.int .i64 l) rfl e1 e0 (row6d hl).1.2.2.2.2.2 (row6d hl).2.2.2.2.2.2 (hK undef _ trivial trivial ⟨⟨t', by omega, hc'.grownBy (grownBy_set v b 5 _) (fun u hu => by cases hu; exact hgb)⟩, ⟨x0, heap_setCell_same v b 5 _ _ (.int .i64 x0) hl⟩, (heap_setCell_other v ⟨b, 5, none⟩ r (.int .i64 x0) hrb).trans hr0, grown_other h4 (grownBy_set v b 5 _) (fun u hu => by cases hu; exact hWb)⟩)
          | j + 8, ho => simp at ho
        · intro a' w' hsz hdf hout hkp hsl hI
          clear hkp hsl
          rename_i K hret
          obtain ⟨⟨t', ht', hc'⟩, ⟨l, hl⟩, hr0, hg'⟩ := hI
          have ht2' : t' ≤ t2 + 1 + 4 * 8 := ht'
          refine hret _ _ ?_
          have hs2 : a'.tmps.getD 2 undef = .pointer (some ⟨r, 0, none⟩) := hout 2 (by simp)
          have hs3 : a'.tmps.getD 3 undef = .pointer (some ⟨b, 0, none⟩) := hout 3 (by simp)
          have h29 : 29 < a'.tmps.size := by rw [hsz]; decide
          have hs2v : ∀ v, (a'.tmps.setIfInBounds 29 v).getD 2 undef = .pointer (some ⟨r, 0, none⟩) := fun v => by rw [← hs2]; simp [Array.getElem?_setIfInBounds_ne]
          obtain ⟨⟨c0, c1, c2, c3, c4, c5⟩, f0, f1, f2, f3, f4, f5⟩ := row6d hl
          obtain ⟨⟨r0, r1, r2, r3, r4, r5⟩, q0, q1, q2, q3, q4, q5⟩ := row6d hr0
          have HC' := Lib.hid hc'
          have HG' := Lib.hid hg'
          have HR' := Lib.hid hr0
          clear hsz hout ht' hl hr0 hc' hg'
          go_wp2
          (try simp only [Exit.inBlock, Exit.then])
          refine bodyPost_ret (v := .agg #[.int .i64 (Pf.mk p.base l).base.k, .int .i64 (Pf.mk p.base l).base.a, .int .i64 (Pf.mk p.base l).base.b, .int .i64 (Pf.mk p.base l).base.c, .int .i64 (Pf.mk p.base l).base.d, .int .i64 (Pf.mk p.base l).len]) ?_ rfl ⟨⟨p.base, l⟩, _, rfl, by omega, cur6 HC'.out (by omega), grown6 HG'.out hWr⟩
          exact res_cell Tryd.results54 _ _ _ r _ (hs2v _) (run_loadVar_row _ _ 36 36 _ (0, 0) _ (set6d _ _ _ _ _ _ HR'.out) Tryd.underlying36 rfl info_pfxd)
      · have e0 : (y == 0) = false := by simpa using h0
        have e1 : (y == 1) = false := by simpa using h1
        have e2 : (y == 2) = false := by simpa using h2
        obtain ⟨⟨c0, c1, c2, c3, c4, c5⟩, f0, f1, f2, f3, f4, f5⟩ := row6d HB3.out
        obtain ⟨⟨r0, r1, r2, r3, r4, r5⟩, q0, q1, q2, q3, q4, q5⟩ := row6d HR3.out
        have HC3 := Lib.hid hc3
        clear hc3
        go_wp2
        (try simp only [Exit.inBlock, Exit.then])
        refine bodyPost_ret (v := .agg #[.int .i64 p.base.k, .int .i64 p.base.a, .int .i64 p.base.b, .int .i64 p.base.c, .int .i64 p.base.d, .int .i64 p.len]) ?_ rfl ⟨p, _, rfl, by omega, cur6 HC3.out (by omega), grown6 HG3.out (Nat.le_refl _)⟩
        refine res_cell Tryd.results54 _ _ _ w.heap.size _ ?_ (run_loadVar_row _ _ 36 36 _ (0, 0) _ (set6d _ _ _ _ _ _ HR3.out) Tryd.underlying36 rfl info_pfxd)
        rfl
end Go.Proofs.YtckakpcjbndijabDoor
namespace Go.Proofs.YtckakpcjbndijabDoor
open Go.RowKit

set_option maxRecDepth 100000 in
theorem belowSet6 {w a : World} {g : Nat} {v0 v1 v2 v3 v4 v5 : Value} (h : Below w.heap.size w a) (hg : w.heap.size ≤ g) : Below w.heap.size w ((((((a.setCell ⟨g, 0, none⟩ v0).setCell ⟨g, 1, none⟩ v1).setCell ⟨g, 2, none⟩ v2).setCell ⟨g, 3, none⟩ v3).setCell ⟨g, 4, none⟩ v4).setCell ⟨g, 5, none⟩ v5) :=
  (((((h.setCell (p := ⟨g, 0, none⟩) hg _).setCell (p := ⟨g, 1, none⟩) hg _).setCell (p := ⟨g, 2, none⟩) hg _).setCell (p := ⟨g, 3, none⟩) hg _).setCell (p := ⟨g, 4, none⟩) hg _).setCell (p := ⟨g, 5, none⟩) hg _

set_option maxRecDepth 100000 in
set_option maxHeartbeats 1000000 in
theorem drawPrefixText (A : Option Addr) (c : Nat) (bs : List UInt8) (w : World) (hr : RB w w.heap.size A bs) (hn : bs.length ≤ 1048576) :
    Calls Tryd.prog 26 #[.slice A bs.length c] w fun e w' => ∃ p : Pf, e = .returned (.agg #[.int .i64 p.base.k, .int .i64 p.base.a, .int .i64 p.base.b, .int .i64 p.base.c, .int .i64 p.base.d, .int .i64 p.len]) ∧ Below w.heap.size w w' := by
  have HO := Lib.hid (fun o : Obj => openC A c bs (w.alloc o) ((hr.below (Joins.below_alloc1 w o)).more (by simp)) hn)
  have hz : ∀ o, (w.alloc o).heap.size = w.heap.size + 1 := fun o => by simp
  have HZ := Lib.hid hz
  clear hz
  go_enter Tryd.func26, Tryd.ntmps26
  go_wp2_with fail
  refine (HO.out _).mono ?_
  rintro e w1 ⟨rfl, hc1, b1⟩
  have HR1 := Lib.hid (new_row b1)
  have B1 := Lib.hid (bthen (Joins.below_alloc1 w _) b1)
  rw [HZ.out] at hc1
  have hrg : w.heap.size ≠ w.heap.size + 1 := by omega
  clear b1
  simp only [World.size_alloc] at *
  go_wp2_with fail
  refine (badPrefixC w1 (w.heap.size + 1) A c bs 0 hc1 (by omega)).mono ?_
  rintro e w2 ⟨p, t2, rfl, _, _, hg2⟩
  have HR2 := Lib.hid (row_kept hg2 hrg HR1.out)
  obtain ⟨⟨c0, c1, c2, c3, c4, c5⟩, f0, f1, f2, f3, f4, f5⟩ := row6d HR2.out
  have B2 := Lib.hid (bgrown B1.out hg2 (fun k hk => by cases hk; omega))
  clear hg2 hc1
  go_wp2
  (try simp only [Exit.inBlock, Exit.then])
  refine bodyPost_ret (v := .agg #[.int .i64 p.base.k, .int .i64 p.base.a, .int .i64 p.base.b, .int .i64 p.base.c, .int .i64 p.base.d, .int .i64 p.len]) ?_ rfl ⟨p, rfl, belowSet6 B2.out (Nat.le_refl _)⟩
  refine res_cell Tryd.results26 _ _ _ w.heap.size _ ?_ (run_loadVar_row _ _ 36 36 _ (0, 0) _ (set6d _ _ _ _ _ _ HR2.out) Tryd.underlying36 rfl info_pfxd)
  rfl

set_option maxRecDepth 100000 in
theorem pick1 (w : World) (g : Nat) : Calls Tryd.prog 76 #[.pointer (some ⟨g, 0, none⟩), .int .i64 1] w fun e w' => e = .returned (.int .i64 0) ∧ w = w' := by
  go_enter Tryd.func76, Tryd.ntmps76
  go_wp2
  go_ret
  exact ⟨rfl, rfl⟩
set_option maxRecDepth 100000 in
theorem pickS (w : World) (g : Nat) (A : Option Addr) (c : Nat) (bs : List UInt8) (t : Nat) (m : Int) (hm : 1 ≤ m) (hmb : m ≤ 1099511627776) (hc : Cur w g A c bs t) (ht : t ≤ 1099511627776) :
    Calls Tryd.prog 76 #[.pointer (some ⟨g, 0, none⟩), .int .i64 m] w fun e w' => ∃ (x : Int) (t' : Nat), e = .returned (.int .i64 x) ∧ 0 ≤ x ∧ x ≤ m - 1 ∧ t' ≤ t + 1 ∧ Cur w' g A c bs t' ∧ w.grownBy w' (some g) := by
  by_cases h : m = 1
  · subst h
    refine (pick1 w g).mono ?_
    rintro e w1 ⟨rfl, rfl⟩
    exact ⟨0, t, rfl, by omega, by omega, by omega, hc, grown_refl w _⟩
  · refine (pickC w g A c bs t m (by omega) hmb hc ht).mono ?_
    rintro e w1 ⟨x, rfl, x0, x1, hc1, hg1⟩
    exact ⟨x, t + 1, rfl, x0, x1, Nat.le_refl _, hc1, hg1⟩
set_option maxRecDepth 100000 in
theorem Pf.len_of {p : Pf} (h : p.ok = true) : 0 ≤ p.len ∧ p.len ≤ 128 := by
  simp only [Pf.ok, Bool.or_eq_true, Bool.and_eq_true, decide_eq_true_eq] at h
  rcases h with h | ⟨⟨_, h0, h1⟩, _⟩
  · rw [h]; exact ⟨by decide, by decide⟩
  · have := bits_bd p.base; omega

/-- The block of a prefix, of an address. -/
def rowP (p : Pf) : Option Obj := some (.cells #[.int .i64 p.base.k, .int .i64 p.base.a, .int .i64 p.base.b, .int .i64 p.base.c, .int .i64 p.base.d, .int .i64 p.len] 36 (0, 0))
def rowA (x : Ad) : Option Obj := some (.cells #[.int .i64 x.k, .int .i64 x.a, .int .i64 x.b, .int .i64 x.c, .int .i64 x.d] 25 (0, 0))
set_option maxRecDepth 100000 in
theorem set_other6 {w : World} {g r : Nat} {v0 v1 v2 v3 v4 v5 : Value} (h : r ≠ g) : ((((((w.setCell ⟨g, 0, none⟩ v0).setCell ⟨g, 1, none⟩ v1).setCell ⟨g, 2, none⟩ v2).setCell ⟨g, 3, none⟩ v3).setCell ⟨g, 4, none⟩ v4).setCell ⟨g, 5, none⟩ v5).heap[r]? = w.heap[r]? := by
  rw [heap_setCell_other _ ⟨g, 5, none⟩ r _ h, heap_setCell_other _ ⟨g, 4, none⟩ r _ h, heap_setCell_other _ ⟨g, 3, none⟩ r _ h, heap_setCell_other _ ⟨g, 2, none⟩ r _ h, heap_setCell_other _ ⟨g, 1, none⟩ r _ h, heap_setCell_other _ ⟨g, 0, none⟩ r _ h]
set_option maxRecDepth 100000 in
theorem set_other5 {w : World} {g r : Nat} {v0 v1 v2 v3 v4 : Value} (h : r ≠ g) : (((((w.setCell ⟨g, 0, none⟩ v0).setCell ⟨g, 1, none⟩ v1).setCell ⟨g, 2, none⟩ v2).setCell ⟨g, 3, none⟩ v3).setCell ⟨g, 4, none⟩ v4).heap[r]? = w.heap[r]? := by
  rw [heap_setCell_other _ ⟨g, 4, none⟩ r _ h, heap_setCell_other _ ⟨g, 3, none⟩ r _ h, heap_setCell_other _ ⟨g, 2, none⟩ r _ h, heap_setCell_other _ ⟨g, 1, none⟩ r _ h, heap_setCell_other _ ⟨g, 0, none⟩ r _ h]
/-- What stands while two prefixes are handed back. -/
def InPP (W : World) (bp bq r s : Nat) (w : World) : Prop := (∃ p, w.heap[bp]? = rowP p) ∧ (∃ p, w.heap[bq]? = rowP p) ∧ (∃ p, w.heap[r]? = rowP p) ∧ (∃ p, w.heap[s]? = rowP p) ∧ Below W.heap.size W w
def InPA (W : World) (bp bq r s : Nat) (w : World) : Prop := (∃ p, w.heap[bp]? = rowP p) ∧ (∃ p, w.heap[bq]? = rowA p) ∧ (∃ p, w.heap[r]? = rowP p) ∧ (∃ p, w.heap[s]? = rowA p) ∧ Below W.heap.size W w
def GPP (j : Nat) (v : Value) : Prop := match j with
  | 0 => ∃ p : Pf, v = .agg #[.int .i64 p.base.k, .int .i64 p.base.a, .int .i64 p.base.b, .int .i64 p.base.c, .int .i64 p.base.d, .int .i64 p.len]
  | 1 => ∃ p : Pf, v = .agg #[.int .i64 p.base.k, .int .i64 p.base.a, .int .i64 p.base.b, .int .i64 p.base.c, .int .i64 p.base.d, .int .i64 p.len]
  | _ => True
def GPA (j : Nat) (v : Value) : Prop := match j with
  | 0 => ∃ p : Pf, v = .agg #[.int .i64 p.base.k, .int .i64 p.base.a, .int .i64 p.base.b, .int .i64 p.base.c, .int .i64 p.base.d, .int .i64 p.len]
  | 1 => ∃ p : Ad, v = .agg #[.int .i64 p.k, .int .i64 p.a, .int .i64 p.b, .int .i64 p.c, .int .i64 p.d]
  | _ => True
section
variable {o : Oper} {a : Act} {w : World} {K : Act → World → Prop} {Q : Exit → Act → World → Prop}
set_option maxRecDepth 100000 in
theorem s_loadP (t b : Nat) (p : Pf) (ho : o.op = .load 36 (.tmp t)) (ht : a.eval (.tmp t) = .pointer (some ⟨b, 0, none⟩)) (hr : w.heap[b]? = rowP p) (hK : K (a.put o.dst (.agg #[.int .i64 p.base.k, .int .i64 p.base.a, .int .i64 p.base.b, .int .i64 p.base.c, .int .i64 p.base.d, .int .i64 p.len])) w) : o.wp Tryd.prog a w K Q := by
  obtain ⟨⟨c0, c1, c2, c3, c4, c5⟩, _⟩ := row6d hr
  clear hr
  unfold Oper.wp execOp
  simp only [ho, ht]
  go_simp
  exact hK
set_option maxRecDepth 100000 in
theorem s_loadA (t b : Nat) (p : Ad) (ho : o.op = .load 25 (.tmp t)) (ht : a.eval (.tmp t) = .pointer (some ⟨b, 0, none⟩)) (hr : w.heap[b]? = rowA p) (hK : K (a.put o.dst (.agg #[.int .i64 p.k, .int .i64 p.a, .int .i64 p.b, .int .i64 p.c, .int .i64 p.d])) w) : o.wp Tryd.prog a w K Q := by
  obtain ⟨⟨c0, c1, c2, c3, c4⟩, _⟩ := row5 hr
  clear hr
  unfold Oper.wp execOp
  simp only [ho, ht]
  go_simp
  exact hK
set_option maxRecDepth 100000 in
theorem s_storeP (x y : Operand) (r : Nat) (z z' : Pf) (ho : o.op = .store 36 x y) (hx : a.eval x = .pointer (some ⟨r, 0, none⟩)) (hy : a.eval y = .agg #[.int .i64 z.base.k, .int .i64 z.base.a, .int .i64 z.base.b, .int .i64 z.base.c, .int .i64 z.base.d, .int .i64 z.len]) (hr : w.heap[r]? = rowP z')
    (hK : K (a.put o.dst undef) ((((((w.setCell ⟨r, 0, none⟩ (.int .i64 z.base.k)).setCell ⟨r, 1, none⟩ (.int .i64 z.base.a)).setCell ⟨r, 2, none⟩ (.int .i64 z.base.b)).setCell ⟨r, 3, none⟩ (.int .i64 z.base.c)).setCell ⟨r, 4, none⟩ (.int .i64 z.base.d)).setCell ⟨r, 5, none⟩ (.int .i64 z.len))) : o.wp Tryd.prog a w K Q := by
  obtain ⟨⟨c0, c1, c2, c3, c4, c5⟩, f0, f1, f2, f3, f4, f5⟩ := row6d hr
  clear hr
  unfold Oper.wp execOp
  simp only [ho, hx, hy]
  go_simp
  exact hK
end
set_option maxRecDepth 100000 in
theorem res_cell_cell {fn : Func} {p q : Tmp} {ty tz : TypeId} (h : fn.results = #[.cell p ty, .cell q tz]) (tmps : Array Value) (P : Program) (w : World) (g k : Nat) (cs ds : Array Value)
    (hp : tmps.getD p undef = .pointer (some ⟨g, 0, none⟩)) (hq : tmps.getD q undef = .pointer (some ⟨k, 0, none⟩)) (hld : (loadVar ty ⟨g, 0, none⟩).run P w = .ok (.agg cs) w) (hle : (loadVar tz ⟨k, 0, none⟩).run P w = .ok (.agg ds) w) :
    (results fn tmps).run P w = .ok (.tuple #[.agg cs, .agg ds]) w := by
  have e : (results fn tmps).run P w = ((asAddr (tmps.getD p undef)).run P w).andThen fun a w₁ => ((loadVar ty a).run P w₁).andThen fun v w₂ => ((asAddr (tmps.getD q undef)).run P w₂).andThen fun b w₃ => ((loadVar tz b).run P w₃).andThen fun u w₄ => .ok (.tuple #[v, u]) w₄ := by
    simp only [results, h]
    simp [Sem.run_bind, Result.andThen]
  rw [e, hp, hq]
  simp [asAddr, Result.andThen, hld, hle]
def TwoPf (w : World) (e : Ending) (w' : World) : Prop := ∃ p q : Pf, e = .returned (.tuple #[.agg #[.int .i64 p.base.k, .int .i64 p.base.a, .int .i64 p.base.b, .int .i64 p.base.c, .int .i64 p.base.d, .int .i64 p.len], .agg #[.int .i64 q.base.k, .int .i64 q.base.a, .int .i64 q.base.b, .int .i64 q.base.c, .int .i64 q.base.d, .int .i64 q.len]]) ∧ Below w.heap.size w w'
def PfAd (w : World) (e : Ending) (w' : World) : Prop := ∃ (p : Pf) (x : Ad), e = .returned (.tuple #[.agg #[.int .i64 p.base.k, .int .i64 p.base.a, .int .i64 p.base.b, .int .i64 p.base.c, .int .i64 p.base.d, .int .i64 p.len], .agg #[.int .i64 x.k, .int .i64 x.a, .int .i64 x.b, .int .i64 x.c, .int .i64 x.d]]) ∧ Below w.heap.size w w'
end Go.Proofs.YtckakpcjbndijabDoor
namespace Go.Proofs.YtckakpcjbndijabDoor
open Go.RowKit

def strOf (bs : List UInt8) : ByteArray := ⟨bs.toArray⟩
set_option maxRecDepth 100000 in
theorem strOf_size (bs : List UInt8) : (strOf bs).size = bs.length := by simp [strOf, ByteArray.size]
set_option maxRecDepth 100000 in
theorem strOf_data (bs : List UInt8) : (strOf bs).data.toList = bs := rfl
set_option maxRecDepth 100000 in
theorem strOf_toList (s : ByteArray) : strOf s.data.toList = s := rfl

set_option maxRecDepth 100000 in
theorem conv_b (w : World) (B : Nat) (A : Option Addr) (n c : Nat) (bs : List UInt8) (hl : bs.length = n) (hr : RB w B A bs) :
    (convert 42 9 (.slice A n c)).run Tryd.prog w = .ok (.string (strOf bs)) w := by
  subst hl
  rcases bs with _ | ⟨b, bs⟩
  · rcases A with _ | a
    · exact run_convert_bytes_nil w 42 5 Tryd.underlying42 Tryd.underlying5 _ c 9 Tryd.underlying9
    · rw [run_convert_bytes_string w 42 9 5 _ _ c Tryd.underlying42 Tryd.underlying5 Tryd.underlying9]
      have h := run_bytesToString (P := Tryd.prog) w a 0 c [] (by
        have := run_loadCells_list (P := Tryd.prog) w a [] (fun j v hj => by simp at hj)
        simpa using this)
      exact h
  · generalize hbs : b :: bs = l at *
    obtain ⟨g, o, rfl, _, hc⟩ := hr (by rw [← hbs]; simp)
    have h := run_convert_bytes_arg (P := Tryd.prog) w 42 5 Tryd.underlying42 Tryd.underlying5 g o l.length c (l.map fun u => (u.toNat : Int)) (by simp) (fun i hi => by
      rw [hc i _ (List.getElem?_eq_getElem hi)]
      simp [hi]) 9 Tryd.underlying9
    rw [h]
    have e : strOfNums (l.map fun u => (u.toNat : Int)) = strOf l := by simp [strOfNums, strOf, Function.comp_def]
    rw [e]
end Go.Proofs.YtckakpcjbndijabDoor
namespace Go.Proofs.YtckakpcjbndijabDoor
open Go.RowKit

/-- The decimal digits of a number that is not 0; of 0 none. -/
def dec (n : Nat) : List UInt8 := if _h : n = 0 then [] else dec (n / 10) ++ [UInt8.ofNat (48 + n % 10)]
termination_by n
decreasing_by omega

set_option maxRecDepth 100000 in
theorem dec_zero : dec 0 = [] := by unfold dec; rfl
set_option maxRecDepth 100000 in
theorem dec_pos (n : Nat) (h : n ≠ 0) : dec n = dec (n / 10) ++ [UInt8.ofNat (48 + n % 10)] := by rw [dec, dif_neg h]
set_option maxRecDepth 100000 in
theorem dec_len (k : Nat) : ∀ n, n < 10 ^ k → (dec n).length ≤ k := by
  induction k with
  | zero => intro n h; have : n = 0 := by simpa using h
            subst this; simp [dec_zero]
  | succ k ih =>
    intro n h
    by_cases h0 : n = 0
    · subst h0; simp [dec_zero]
    · rw [dec_pos n h0]
      have := ih (n / 10) (by rw [Nat.pow_succ] at h; omega)
      simp
      exact this

/-- The text that the model gives of n. -/
def numText (n : Int) : List UInt8 := if n = 0 then [48] else if n < 0 then 45 :: dec n.natAbs else dec n.natAbs

set_option maxRecDepth 100000 in
theorem digit_val (d : Nat) (h : d < 10) : ((UInt8.ofNat (48 + d)).toNat : Int) = 48 + (d : Int) := by
  simp
  omega

set_option maxRecDepth 100000 in
theorem num_step (n m : Int) (bs : List UInt8) (h : dec n.natAbs = dec m.natAbs ++ bs) (hm : m ≠ 0) : dec n.natAbs = dec (m.tdiv 10).natAbs ++ (UInt8.ofNat (48 + m.natAbs % 10) :: bs) := by
  rw [h, dec_pos m.natAbs (by omega), Int.natAbs_tdiv]
  simp
  rfl

set_option maxRecDepth 100000 in
theorem tmod_ten (m : Int) : (0 < m → m.tmod 10 = (m.natAbs % 10 : Nat)) ∧ (m < 0 → m.tmod 10 = -(m.natAbs % 10 : Nat)) := by
  constructor
  · intro h
    rw [Int.tmod_eq_emod_of_nonneg (by omega)]
    omega
  · intro h
    have h1 : m = -(-m) := by omega
    rw [h1, Int.neg_tmod, Int.tmod_eq_emod_of_nonneg (by omega)]
    omega

set_option maxRecDepth 100000 in
theorem tdiv_neg_ten (m : Int) (h : m < 0) (hm : -9223372036854775808 ≤ m) : -922337203685477580 ≤ m.tdiv 10 ∧ m.tdiv 10 ≤ 0 := by
  have h1 : m.tdiv 10 = -((-m) / 10) := by
    conv => lhs; rw [show m = -(-m) by omega]
    rw [Int.neg_tdiv, Int.tdiv_eq_ediv_of_nonneg (by omega)]
  rw [h1]
  omega

set_option maxRecDepth 100000 in
/-- One byte in a new block. -/
theorem own_byte (w : World) (base : Nat) (hb : base ≤ w.heap.size) (x : Int) (b : UInt8) (h : (b.toNat : Int) = x) :
    (w.alloc (.cells #[.int .u8 x] 5)).ownsRow base 5 1 (.slice (some ⟨w.heap.size, 0, none⟩) 1 1) [b].length (cellsOf [b]) := by
  subst h
  exact World.ownsRow_lit w #[.int .u8 (b.toNat : Int)] 1 hb (by decide) rfl

set_option maxRecDepth 100000 in
set_option maxHeartbeats 1000000 in
theorem specNumText (n : Int) (w : World) (hw : -9223372036854775808 ≤ n ∧ n ≤ 9223372036854775807) :
    Calls Tryd.prog 29 #[.int .i64 n] w fun e w' => e = .returned (.string (strOf (numText n))) ∧ Below w.heap.size w w' := by
  by_cases h0 : n = 0
  · subst h0
    go_enter Tryd.func29, Tryd.ntmps29
    go_wp2
    go_ret
    exact ⟨rfl, Below.refl _ _⟩
  · have hne : (n == 0) = false := by simpa using h0
    go_enter Tryd.func29, Tryd.ntmps29
    go_wp2
    go_loopw [3, 4] (fun v q wr => ∃ (bs : List UInt8) (m : Int), q = .int .i64 m ∧ -9223372036854775808 ≤ m ∧ m ≤ 9223372036854775807 ∧ dec n.natAbs = dec m.natAbs ++ bs ∧ wr.ownsRow w.heap.size 5 1 v bs.length (cellsOf bs) ∧ Below w.heap.size w wr) (fun _ q _ => (intOf q).natAbs)
    case atStart => exact ⟨[], n, rfl, hw.1, hw.2, by simp, World.ownsRow_lit w #[] 0 (Nat.le_refl _) (Nat.zero_le _) rfl, (Below.refl _ _).alloc (Nat.le_refl _) _⟩
    case round =>
      obtain ⟨bs, m, rfl, hm1, hm2, hdec, hown, hb⟩ := hrel
      obtain ⟨A, c, rfl⟩ := own_form hown
      by_cases hm0 : m = 0
      · subst hm0
        have hlen : bs.length ≤ 20 := by
          have h1 := dec_len 20 n.natAbs (by omega)
          rw [hdec, List.length_append] at h1
          omega
        have hbs : bs = dec n.natAbs := by rw [hdec]; simp [dec_zero]
        have hz := hb.size
        by_cases hneg : n < 0
        · have o1 := own_byte wr w.heap.size hb.size 45 45 rfl
          have r1 := (RB.of_own (hown.alloc (.cells #[.int .u8 45] 5)))
          have hb2 := Lib.hid (hb.alloc hb.size (.cells #[.int .u8 45] 5))
          have hbq := Lib.hid hbs; clear hbs
          clear hdec
          go_wp2_with (at_builtin; refine wpList_append_b rfl (.tmp 28) (.tmp 29) rfl w.heap.size (.slice (some ⟨wr.heap.size, 0, none⟩) 1 1) [45] rfl o1 _ A bs.length c bs rfl rfl r1 (by simp; omega) (by simp; omega) ?_; intro v3 w3 hown3 hg3 _; obtain ⟨A3, c3, rfl⟩ := own_form hown3; have hcv := conv_b w3 _ A3 (bs.length + 1) c3 (45 :: bs) (by simp) (RB.of_own (bs := 45 :: bs) hown3))
          go_ret
          refine ⟨?_, hb2.out.grown hg3 (by simp; omega) (by intro k hk; simp [Value.ownBlock] at hk; omega)⟩
          rw [numText, if_neg h0, if_pos hneg, ← hbq.out]
          rfl
        · have hbq := Lib.hid hbs; clear hbs
          have hcv := conv_b wr _ A bs.length c bs rfl (RB.of_own hown)
          clear hdec
          go_wp2
          go_ret
          refine ⟨?_, hb⟩
          rw [numText, if_neg h0, if_neg (by omega), ← hbq.out]
          rfl
      · have hmne : (m == 0) = false := by simpa using hm0
        have hst := Lib.hid (num_step n m bs hdec hm0)
        have hten := tmod_ten m
        have hlen : bs.length ≤ 20 := by
          have h1 := dec_len 20 n.natAbs (by omega)
          rw [hdec, List.length_append] at h1
          omega
        obtain ⟨d, hd⟩ : ∃ d : Nat, d = m.natAbs % 10 := ⟨_, rfl⟩
        rw [← hd] at hten hst
        have hd10 : d < 10 := by omega
        have hz := hb.size
        have o1 := own_byte wr w.heap.size hb.size (48 + (d : Int)) (UInt8.ofNat (48 + d)) (digit_val d hd10)
        have r1 := (RB.of_own (hown.alloc (.cells #[.int .u8 (48 + (d : Int))] 5)))
        have hb2 := Lib.hid (hb.alloc hb.size (.cells #[.int .u8 (48 + (d : Int))] 5))
        rcases Int.lt_or_gt_of_ne hm0 with hneg | hpos
        · have hdm := hten.2 hneg
          obtain ⟨t1, t2⟩ := tdiv_neg_ten m hneg hm1
          have hdn : 0 < d ∨ d = 0 := by omega
          have hm3 := Lib.hid (show (m.tdiv 10).natAbs < m.natAbs by rw [Int.natAbs_tdiv]; exact Nat.div_lt_self (by omega) (by omega))
          clear hten hdec hd
          rcases hdn with hdp | rfl
          · go_wp2_with (at_builtin; refine wpList_append_b rfl (.tmp 23) (.tmp 24) rfl w.heap.size (.slice (some ⟨wr.heap.size, 0, none⟩) 1 1) [UInt8.ofNat (48 + d)] rfl o1 _ A bs.length c bs rfl rfl r1 (by simp; omega) (by simp; omega) ?_; intro v3 w3 hown3 hg3 _)
            go_roundw
            case rel => exact ⟨_, _, rfl, by omega, by omega, hst.out, hown3, hb2.out.grown hg3 (by simp; omega) (by intro k hk; simp [Value.ownBlock] at hk; omega)⟩
            case measure => simp only [intOf]; exact hm3.out
          · go_wp2_with (at_builtin; refine wpList_append_b rfl (.tmp 23) (.tmp 24) rfl w.heap.size (.slice (some ⟨wr.heap.size, 0, none⟩) 1 1) [UInt8.ofNat (48 + 0)] rfl o1 _ A bs.length c bs rfl rfl r1 (by simp; omega) (by simp; omega) ?_; intro v3 w3 hown3 hg3 _)
            go_roundw
            case rel => exact ⟨_, _, rfl, by omega, by omega, hst.out, hown3, hb2.out.grown hg3 (by simp; omega) (by intro k hk; simp [Value.ownBlock] at hk; omega)⟩
            case measure => simp only [intOf]; exact hm3.out
        · have hdm := hten.1 hpos
          have hq := Lib.hid (Int.tdiv_eq_ediv_of_nonneg (a := m) (b := 10) (by omega))
          clear hten hdec hd
          go_wp2_with (at_builtin; refine wpList_append_b rfl (.tmp 23) (.tmp 24) rfl w.heap.size (.slice (some ⟨wr.heap.size, 0, none⟩) 1 1) [UInt8.ofNat (48 + d)] rfl o1 _ A bs.length c bs rfl rfl r1 (by simp; omega) (by simp; omega) ?_; intro v3 w3 hown3 hg3 _)
          go_roundw
          case rel => exact ⟨_, m / 10, rfl, by omega, by omega, by rw [← hq.out]; exact hst.out, hown3, hb2.out.grown hg3 (by simp; omega) (by intro k hk; simp [Value.ownBlock] at hk; omega)⟩
          case measure => simp only [intOf]; omega
end Go.Proofs.YtckakpcjbndijabDoor
namespace Go.Proofs.YtckakpcjbndijabDoor

def isDig (b : UInt8) : Bool := decide (48 ≤ b.toNat ∧ b.toNat ≤ 57)
def val (l : List UInt8) : Nat := l.foldl (fun n b => 10 * n + (b.toNat - 48)) 0
def okNum (l : List UInt8) : Bool := decide (1 ≤ l.length ∧ l.length ≤ 12) && l.all isDig && (decide (l.length = 1) || decide (l.head? ≠ some 48))
def numR (l : List UInt8) : Int := if okNum l = true then (val l : Int) else 0

set_option maxRecDepth 100000 in
theorem val_snoc (l : List UInt8) (b : UInt8) : val (l ++ [b]) = 10 * val l + (b.toNat - 48) := by simp [val]
set_option maxRecDepth 100000 in
theorem val_take (l : List UInt8) (k : Nat) (h : k < l.length) : val (l.take (k + 1)) = 10 * val (l.take k) + (l[k].toNat - 48) := by rw [take_snoc l k h, val_snoc]

set_option maxRecDepth 100000 in
theorem val_from (l : List UInt8) (hd : l.all isDig = true) : ∀ a : Nat, l.foldl (fun n b => 10 * n + (b.toNat - 48)) a < (a + 1) * 10 ^ l.length := by
  induction l with
  | nil => intro a; simp
  | cons b l ih =>
    intro a
    simp only [List.all_cons, Bool.and_eq_true, isDig, decide_eq_true_eq] at hd
    have h := ih hd.2 (10 * a + (b.toNat - 48))
    have h2 : (10 * a + (b.toNat - 48) + 1) * 10 ^ l.length ≤ (10 * (a + 1)) * 10 ^ l.length := Nat.mul_le_mul_right _ (by omega)
    simp only [List.foldl_cons, List.length_cons, Nat.pow_succ]
    have h3 : (a + 1) * (10 ^ l.length * 10) = (10 * (a + 1)) * 10 ^ l.length := by rw [Nat.mul_comm (10 ^ l.length) 10, ← Nat.mul_assoc, Nat.mul_comm (a + 1) 10]
    omega
set_option maxRecDepth 100000 in
theorem val_lt (l : List UInt8) (hd : l.all isDig = true) (h : l.length ≤ 12) : val l < 1000000000000 := by
  have h1 := val_from l hd 0
  have h2 : 10 ^ l.length ≤ 10 ^ 12 := Nat.pow_le_pow_right (by omega) h
  simp only [Nat.zero_add, Nat.one_mul] at h1
  unfold val
  omega

set_option maxRecDepth 100000 in
theorem isDig_of (b : UInt8) (h : isDig b = true) : 48 ≤ b.toNat ∧ b.toNat ≤ 57 := by simpa [isDig] using h
set_option maxRecDepth 100000 in
theorem all_take (l : List UInt8) (k : Nat) (h : k < l.length) : (l.take (k + 1)).all isDig = ((l.take k).all isDig && isDig l[k]) := by rw [take_snoc l k h, List.all_append]; simp

set_option maxRecDepth 100000 in
theorem dig_back (b : UInt8) (h : isDig b = true) : UInt8.ofNat (48 + (b.toNat - 48) % 10) = b := by
  have := isDig_of b h
  rw [Nat.mod_eq_of_lt (by omega), show 48 + (b.toNat - 48) = b.toNat by omega]
  exact UInt8.ofNat_toNat

set_option maxRecDepth 100000 in
/-- Induction from the right. -/
theorem snoc_ind {T : Type} {P : List T → Prop} (h0 : P []) (hs : ∀ l a, P l → P (l ++ [a])) : ∀ l, P l := by
  intro l
  have h : ∀ l : List T, P l.reverse := by
    intro l
    induction l with
    | nil => exact h0
    | cons a l ih => rw [List.reverse_cons]; exact hs _ _ ih
  have := h l.reverse
  rwa [List.reverse_reverse] at this

set_option maxRecDepth 100000 in
theorem dec_val (l : List UInt8) : l.all isDig = true → l.head? ≠ some 48 → dec (val l) = l := by
  induction l using snoc_ind with
  | h0 => intro _ _; simp [val, dec_zero]
  | hs l a ih =>
    intro hd hh
    rw [List.all_append, Bool.and_eq_true] at hd
    have hda : isDig a = true := by simpa using hd.2
    have hb := isDig_of a hda
    have hl : dec (val l) = l := ih hd.1 (by
      rcases l with _ | ⟨b, l⟩
      · simp
      · simpa using hh)
    rw [val_snoc]
    have hne : 10 * val l + (a.toNat - 48) ≠ 0 := by
      rcases l with _ | ⟨b, l⟩
      · have : a.toNat ≠ 48 := by
          intro e
          apply hh
          have : a = 48 := UInt8.toNat_inj.1 e
          simp [this]
        omega
      · have : val (b :: l) ≠ 0 := by
          intro e
          rw [e, dec_zero] at hl
          cases hl
        omega
    rw [dec_pos _ hne, show (10 * val l + (a.toNat - 48)) / 10 = val l by omega, hl, show (10 * val l + (a.toNat - 48)) % 10 = (a.toNat - 48) % 10 by omega, dig_back a hda]

set_option maxRecDepth 100000 in
theorem dec_head (n : Nat) : n ≠ 0 → ∃ b t, dec n = b :: t ∧ b ≠ 48 := by
  induction n using Nat.strongRecOn with
  | ind n ih =>
    intro h
    rw [dec_pos n h]
    by_cases h10 : n / 10 = 0
    · rw [h10, dec_zero]
      refine ⟨_, [], rfl, fun e => ?_⟩
      have := congrArg UInt8.toNat e
      simp at this
      omega
    · obtain ⟨b, t, hb, hne⟩ := ih (n / 10) (by omega) h10
      exact ⟨b, t ++ [UInt8.ofNat (48 + n % 10)], by rw [hb]; rfl, hne⟩

set_option maxRecDepth 100000 in
theorem numText_val (l : List UInt8) (hd : l.all isDig = true) (h1 : 1 ≤ l.length) (h2 : l.length = 1 ∨ l.head? ≠ some 48) : numText (val l : Int) = l := by
  by_cases hz : l.head? = some 48
  · rcases h2 with h2 | h2
    · match l, h2 with
      | [a], _ =>
        simp at hz
        subst hz
        rfl
    · exact absurd hz h2
  · have h := dec_val l hd hz
    have hne : val l ≠ 0 := by
      intro e
      rw [e, dec_zero] at h
      rw [← h] at h1
      simp at h1
    rw [numText, if_neg (by omega), if_neg (by omega), Int.natAbs_natCast, h]

set_option maxRecDepth 100000 in
theorem numText_not (l : List UInt8) (h1 : 1 < l.length) (h2 : l.head? = some 48) : numText (val l : Int) ≠ l := by
  intro e
  by_cases hz : val l = 0
  · rw [hz] at e
    rw [← e] at h1
    simp [numText] at h1
  · rw [numText, if_neg (by omega), if_neg (by omega), Int.natAbs_natCast] at e
    obtain ⟨b, t, hb, hne⟩ := dec_head _ hz
    rw [← e, hb] at h2
    simp at h2
    exact hne h2

set_option maxRecDepth 100000 in
theorem okNum_yes (l : List UInt8) (h1 : 1 ≤ l.length) (h2 : l.length ≤ 12) (hd : l.all isDig = true) (h3 : l.length = 1 ∨ l.head? ≠ some 48) : okNum l = true := by
  simp only [okNum, Bool.and_eq_true, Bool.or_eq_true, decide_eq_true_eq]
  exact ⟨⟨⟨h1, h2⟩, hd⟩, h3⟩
set_option maxRecDepth 100000 in
theorem okNum_len (l : List UInt8) (h : ¬ (1 ≤ l.length ∧ l.length ≤ 12)) : okNum l = false := by simp [okNum, h]
set_option maxRecDepth 100000 in
theorem okNum_zero (l : List UInt8) (h : 1 < l.length) (hh : l.head? = some 48) : okNum l = false := by simp [okNum, hh, show l.length ≠ 1 by omega]
set_option maxRecDepth 100000 in
theorem okNum_dig (l : List UInt8) (k : Nat) (h : k < l.length) (hd : isDig l[k] = false) : okNum l = false := by
  have : l.all isDig = false := by
    rw [List.all_eq_false]
    exact ⟨l[k], List.getElem_mem h, by simp [hd]⟩
  simp [okNum, this]
end Go.Proofs.YtckakpcjbndijabDoor
namespace Go.Proofs.YtckakpcjbndijabDoor
open Go.RowKit

def hexDig (d : Nat) : UInt8 := if d < 10 then UInt8.ofNat (48 + d) else UInt8.ofNat (87 + d)
def hexOf (bs : List UInt8) : List UInt8 := bs.flatMap fun b => [hexDig (b.toNat / 16), hexDig (b.toNat % 16)]
set_option maxRecDepth 100000 in
theorem hexOf_length (bs : List UInt8) : (hexOf bs).length = 2 * bs.length := by
  induction bs with
  | nil => rfl
  | cons b bs ih => simp only [hexOf, List.flatMap_cons, List.length_append, List.length_cons, List.length_nil] at *; omega
set_option maxRecDepth 100000 in
theorem hexOf_snoc (bs : List UInt8) (b : UInt8) : hexOf (bs ++ [b]) = hexOf bs ++ [hexDig (b.toNat / 16), hexDig (b.toNat % 16)] := by simp [hexOf]

set_option maxRecDepth 100000 in
theorem hexDig_lo (d : Nat) (h : d < 10) : ((hexDig d).toNat : Int) = 48 + d := by
  simp [hexDig, h]
  omega
set_option maxRecDepth 100000 in
theorem hexDig_hi (d : Nat) (h : ¬ d < 10) (h2 : d < 16) : ((hexDig d).toNat : Int) = 87 + d := by
  simp [hexDig, h]
  omega

set_option maxRecDepth 100000 in
/-- The program's constant text of the sixteen digits. -/
theorem index_hex (d : Nat) (h : d < 16) (w : World) :
    (Instr.index 9 (.string ⟨#[48, 49, 50, 51, 52, 53, 54, 55, 56, 57, 97, 98, 99, 100, 101, 102]⟩) (.int .u8 (d : Int))).run Tryd.prog w = .ok (.int .u8 ((hexDig d).toNat : Int)) w := by
  have : d = 0 ∨ d = 1 ∨ d = 2 ∨ d = 3 ∨ d = 4 ∨ d = 5 ∨ d = 6 ∨ d = 7 ∨ d = 8 ∨ d = 9 ∨ d = 10 ∨ d = 11 ∨ d = 12 ∨ d = 13 ∨ d = 14 ∨ d = 15 := by omega
  rcases this with rfl | rfl | rfl | rfl | rfl | rfl | rfl | rfl | rfl | rfl | rfl | rfl | rfl | rfl | rfl | rfl <;> (show _ = _; kernel_rfl)

set_option maxRecDepth 100000 in
set_option maxHeartbeats 400000 in
theorem specDigit (d : Int) (w : World) (h0 : 0 ≤ d) (h : d < 16) :
    Calls Tryd.prog 58 #[.int .i64 d] w fun e w' => e = .returned (.int .u8 ((hexDig d.toNat).toNat : Int)) ∧ w = w' := by
  by_cases h1 : d < 10
  · go_enter Tryd.func58, Tryd.ntmps58
    go_wp2
    go_ret
    exact ⟨ret_int (by rw [hexDig_lo d.toNat (by omega)]; omega), rfl⟩
  · go_enter Tryd.func58, Tryd.ntmps58
    go_wp2
    go_ret
    exact ⟨ret_int (by rw [hexDig_hi d.toNat (by omega) (by omega)]; omega), rfl⟩

set_option maxRecDepth 100000 in
theorem specDigitN (d : Nat) (w : World) (h : d < 16) :
    Calls Tryd.prog 58 #[.int .i64 (d : Int)] w fun e w' => e = .returned (.int .u8 ((hexDig d).toNat : Int)) ∧ w = w' := by
  have := specDigit (d : Int) w (by omega) (by omega)
  simpa using this

set_option maxRecDepth 100000 in
theorem byte_parts (b : Nat) (h : b < 256) : IntKind.i64.wrap (b : Int) = b ∧ IntKind.i64.wrap ((b : Int) / 16) = ((b / 16 : Nat) : Int) ∧ IntKind.i64.wrap ((b : Int).tmod 16) = ((b % 16 : Nat) : Int) ∧ (b : Int).tmod 16 = ((b % 16 : Nat) : Int) := by
  rw [Int.tmod_eq_emod_of_nonneg (by omega), IntKind.wrap_i64, IntKind.wrap_i64, IntKind.wrap_i64]
  omega

set_option maxRecDepth 100000 in
theorem and15 (b : UInt8) : bits .and .u8 (b.toNat : Int) 15 = (b.toNat : Int) % 16 := by
  have hb : b.toNat < 256 := UInt8.toNat_lt b
  generalize b.toNat = n at *
  have e : (BitVec.ofInt 8 (n : Int)).toNat = n := by
    rw [BitVec.ofInt_natCast, BitVec.toNat_ofNat]
    exact Nat.mod_eq_of_lt (by omega)
  have e2 : n &&& 15 = n % 16 := Nat.and_two_pow_sub_one_eq_mod n 4
  show IntKind.u8.wrap ((BitVec.ofInt 8 (n : Int) &&& BitVec.ofInt 8 15).toNat : Int) = _
  rw [BitVec.toNat_and, e, show (BitVec.ofInt 8 15).toNat = 15 from rfl, e2, IntKind.wrap_u8]
  omega

end Go.Proofs.YtckakpcjbndijabDoor
namespace Go.Proofs.YtckakpcjbndijabDoor

/-- The value of a hexadecimal digit; 16 for another byte. -/
def hexV (b : UInt8) : Nat := if 48 ≤ b.toNat ∧ b.toNat ≤ 57 then b.toNat - 48 else if 97 ≤ b.toNat ∧ b.toNat ≤ 102 then b.toNat - 87 else 16
set_option maxRecDepth 100000 in
theorem hexV_le (b : UInt8) : hexV b ≤ 16 := by unfold hexV; split <;> (try split) <;> omega

set_option maxRecDepth 100000 in
theorem hexV_dig (d : Nat) (h : d < 16) (b : UInt8) : b.toNat = (hexDig d).toNat ↔ hexV b = d := by
  by_cases h10 : d < 10
  · have e := hexDig_lo d h10
    unfold hexV
    split
    · omega
    · split <;> omega
  · have e := hexDig_hi d h10 h
    unfold hexV
    split
    · omega
    · split <;> omega

def hexAt (l : List UInt8) (i : Nat) : Nat := hexV (l.getD i 0)
def hexBytes (l : List UInt8) : List UInt8 := (List.range (l.length / 2)).map fun j => UInt8.ofNat (16 * hexAt l (2 * j) + hexAt l (2 * j + 1))
def okHex (l : List UInt8) : Bool := decide (l.length % 2 = 0 ∧ l.length ≤ 8000) && l.all (fun b => decide (hexV b < 16))
def hexR (l : List UInt8) : List UInt8 := if okHex l = true then hexBytes l else []

set_option maxRecDepth 100000 in
theorem okHex_len (l : List UInt8) (h : ¬ (l.length % 2 = 0 ∧ l.length ≤ 8000)) : okHex l = false := by simp only [okHex, h]; rfl
set_option maxRecDepth 100000 in
theorem okHex_bad (l : List UInt8) (i : Nat) (h : i < l.length) (hb : ¬ hexV l[i] < 16) : okHex l = false := by
  have : l.all (fun b => decide (hexV b < 16)) = false := by
    rw [List.all_eq_false]
    exact ⟨l[i], List.getElem_mem h, by simpa using hb⟩
  rw [okHex, this, Bool.and_false]
set_option maxRecDepth 100000 in
theorem okHex_yes (l : List UInt8) (h1 : l.length % 2 = 0) (h2 : l.length ≤ 8000) (h : ∀ i (hi : i < l.length), hexV l[i] < 16) : okHex l = true := by
  have : l.all (fun b => decide (hexV b < 16)) = true := by
    rw [List.all_eq_true]
    intro b hb
    obtain ⟨i, hi, rfl⟩ := List.getElem_of_mem hb
    simpa using h i hi
  rw [okHex, this]
  simp [h1, h2]
set_option maxRecDepth 100000 in
theorem hexAt_get (l : List UInt8) (i : Nat) (h : i < l.length) : hexAt l i = hexV l[i] := by simp [hexAt, h]

set_option maxRecDepth 100000 in
theorem hexBytes_length (l : List UInt8) : (hexBytes l).length = l.length / 2 := by simp [hexBytes]

/-- The program's row of bytes after i characters: byte j. -/
def hexSt (l : List UInt8) (i j : Nat) : Nat := if 2 * j + 1 < i then 16 * hexAt l (2 * j) + hexAt l (2 * j + 1) else if 2 * j < i then hexAt l (2 * j) else 0
def hexRow (l : List UInt8) (i : Nat) : List UInt8 := (List.range (l.length / 2)).map fun j => UInt8.ofNat (hexSt l i j)
set_option maxRecDepth 100000 in
theorem hexRow_length (l : List UInt8) (i : Nat) : (hexRow l i).length = l.length / 2 := by simp [hexRow]
set_option maxRecDepth 100000 in
theorem hexRow_zero (l : List UInt8) : hexRow l 0 = List.replicate (l.length / 2) 0 := by
  apply List.ext_getElem?
  intro j
  by_cases h : j < l.length / 2
  · simp [hexRow, hexSt, h]
  · simp [hexRow, h]
set_option maxRecDepth 100000 in
theorem hexRow_end (l : List UInt8) (h : l.length % 2 = 0) : hexRow l l.length = hexBytes l := by
  unfold hexRow hexBytes
  apply List.map_congr_left
  intro j hj
  rw [List.mem_range] at hj
  rw [hexSt, if_pos (by omega)]
set_option maxRecDepth 100000 in
theorem hexRow_get (l : List UInt8) (i j : Nat) (h : j < l.length / 2) : (hexRow l i)[j]? = some (UInt8.ofNat (hexSt l i j)) := by simp [hexRow, h]
set_option maxRecDepth 100000 in
theorem hexRow_step (l : List UInt8) (i : Nat) :
    (hexRow l i).set (i / 2) (UInt8.ofNat (16 * hexSt l i (i / 2) + hexAt l i)) = hexRow l (i + 1) := by
  apply List.ext_getElem?
  intro j
  have hl := hexRow_length l i
  have hl1 := hexRow_length l (i + 1)
  by_cases hj : j < l.length / 2
  · rw [hexRow_get l (i + 1) j hj]
    by_cases e : j = i / 2
    · subst e
      rw [List.getElem?_set_self (by omega)]
      congr 2
      by_cases ho : i % 2 = 0
      · have hi : 2 * (i / 2) = i := by omega
        rw [hexSt, if_neg (by omega), if_neg (by omega), hexSt, if_neg (by omega), if_pos (by omega), hi]
        omega
      · have hi : 2 * (i / 2) + 1 = i := by omega
        rw [hexSt, if_neg (by omega), if_pos (by omega), hexSt, if_pos (by omega), hi]
    · rw [List.getElem?_set_ne (fun e' => e e'.symm), hexRow_get l i j hj]
      congr 2
      unfold hexSt
      by_cases c1 : 2 * j + 1 < i
      · rw [if_pos c1, if_pos (by omega)]
      · rw [if_neg c1, if_neg (show ¬ 2 * j + 1 < i + 1 by omega)]
        by_cases c2 : 2 * j < i
        · rw [if_pos c2, if_pos (by omega)]
        · rw [if_neg c2, if_neg (by omega)]
  · rw [List.getElem?_eq_none (by simp; omega), List.getElem?_eq_none (by omega)]
set_option maxRecDepth 100000 in
theorem hexSt_lt (l : List UInt8) (i : Nat) (h : ∀ j, j < i → hexAt l j < 16) : hexSt l i (i / 2) < 16 := by
  unfold hexSt
  split
  · omega
  · split
    · exact h _ (by omega)
    · omega
set_option maxRecDepth 100000 in
theorem hexAt_le (l : List UInt8) (i : Nat) : hexAt l i ≤ 16 := hexV_le _
end Go.Proofs.YtckakpcjbndijabDoor
namespace Go.Proofs.YtckakpcjbndijabDoor

def isWord (n : Int) : Bool := decide (0 ≤ n ∧ n ≤ 65535)
set_option maxRecDepth 100000 in
theorem isWord_iff {n : Int} : isWord n = true ↔ 0 ≤ n ∧ n ≤ 65535 := by simp [isWord]
set_option maxRecDepth 100000 in
theorem isWord_not {n : Int} : isWord n = false ↔ n < 0 ∨ 65535 < n := by simp [isWord]; omega

/-- The sum of two words with the carry taken off. -/
def sadd (a b : Int) : Int := if 65535 < a + b then a + b - 65535 else a + b
set_option maxRecDepth 100000 in
theorem sadd_word {a b : Int} (ha : isWord a = true) (hb : isWord b = true) : isWord (sadd a b) = true := by
  rw [isWord_iff] at *
  unfold sadd
  split <;> omega
set_option maxRecDepth 100000 in
theorem sadd_zero {a : Int} (ha : isWord a = true) : sadd 0 a = a := by
  rw [isWord_iff] at ha
  unfold sadd
  split <;> omega

/-- The sum of a list of words from s on. -/
def sums (s : Int) (ws : List Int) : Int := ws.foldl sadd s
set_option maxRecDepth 100000 in
theorem sums_snoc (s : Int) (ws : List Int) (x : Int) : sums s (ws ++ [x]) = sadd (sums s ws) x := by simp [sums]
set_option maxRecDepth 100000 in
theorem sums_append (s : Int) (a b : List Int) : sums s (a ++ b) = sums (sums s a) b := by simp [sums]
set_option maxRecDepth 100000 in
theorem sums_word (ws : List Int) : ∀ s, isWord s = true → ws.all isWord = true → isWord (sums s ws) = true := by
  induction ws with
  | nil => intro s h _; exact h
  | cons x ws ih =>
    intro s h hw
    simp only [List.all_cons, Bool.and_eq_true] at hw
    exact ih _ (sadd_word h hw.1) hw.2

/-- What 'folded' answers. -/
def folded (ws : List Int) : Int := if ws.all isWord then sums 0 ws else -1
set_option maxRecDepth 100000 in
theorem folded_yes {ws : List Int} (h : ws.all isWord = true) : folded ws = sums 0 ws := by rw [folded, if_pos h]
set_option maxRecDepth 100000 in
theorem folded_no {ws : List Int} (k : Nat) (hk : k < ws.length) (h : isWord ws[k] = false) : folded ws = -1 := by
  have : ws.all isWord = false := by
    rw [Bool.eq_false_iff]
    intro ha
    have := List.all_eq_true.1 ha _ (List.getElem_mem hk)
    simp [h] at this
  rw [folded, this]
  rfl
set_option maxRecDepth 100000 in
theorem folded_range (ws : List Int) : -1 ≤ folded ws ∧ folded ws ≤ 65535 := by
  by_cases h : ws.all isWord = true
  · rw [folded_yes h]
    have := isWord_iff.1 (sums_word ws 0 (by decide) h)
    omega
  · rw [folded, if_neg h]
    omega
set_option maxRecDepth 100000 in
theorem all_take_snoc (ws : List Int) (k : Nat) (hk : k < ws.length) (h : (ws.take k).all isWord = true) (hx : isWord ws[k] = true) : (ws.take (k + 1)).all isWord = true := by
  rw [take_snoc ws k hk, List.all_append, h, List.all_cons, hx]
  rfl

/-- What 'complement' answers. -/
def comp (n : Int) : Int := if isWord n then 65535 - n else -1
set_option maxRecDepth 100000 in
theorem comp_yes {n : Int} (h : isWord n = true) : comp n = 65535 - n := by rw [comp, if_pos h]
set_option maxRecDepth 100000 in
theorem comp_no {n : Int} (h : isWord n = false) : comp n = -1 := by rw [comp, h]; rfl
set_option maxRecDepth 100000 in
theorem comp_word {n : Int} (h : isWord n = true) : isWord (comp n) = true := by
  rw [comp_yes h]
  rw [isWord_iff] at *
  omega
set_option maxRecDepth 100000 in
theorem comp_is (n : Int) : isWord (comp n) = isWord n := by
  cases h : isWord n with
  | true => exact comp_word h
  | false => rw [comp_no h]; rfl

/-- The words of a list of bytes. -/
def wordsL : List UInt8 → List Int
  | [] => []
  | [a] => [256 * (a.toNat : Int)]
  | a :: b :: t => (256 * (a.toNat : Int) + b.toNat) :: wordsL t
set_option maxRecDepth 100000 in
theorem wordsL_length : ∀ l : List UInt8, (wordsL l).length = (l.length + 1) / 2
  | [] => rfl
  | [_] => by simp [wordsL]
  | a :: b :: t => by
    have := wordsL_length t
    simp only [wordsL, List.length_cons, this]
    omega
set_option maxRecDepth 100000 in
theorem wordsL_append : ∀ (l m : List UInt8), l.length % 2 = 0 → wordsL (l ++ m) = wordsL l ++ wordsL m
  | [], _, _ => rfl
  | [_], _, h => by simp at h
  | a :: b :: t, m, h => by
    have := wordsL_append t m (by simp at h; omega)
    simp [wordsL, this]
set_option maxRecDepth 100000 in
theorem wordsL_word : ∀ l : List UInt8, (wordsL l).all isWord = true
  | [] => rfl
  | [a] => by
    have := UInt8.toNat_lt a
    simp [wordsL, isWord]
    omega
  | a :: b :: t => by
    have := wordsL_word t
    have := UInt8.toNat_lt a
    have := UInt8.toNat_lt b
    simp only [wordsL, List.all_cons, Bool.and_eq_true]
    exact ⟨isWord_iff.2 (by omega), by assumption⟩
set_option maxRecDepth 100000 in
theorem wordsL_even (bs : List UInt8) (k : Nat) (h : k < bs.length) (he : k % 2 = 0) : wordsL (bs.take (k + 1)) = wordsL (bs.take k) ++ [256 * (bs[k].toNat : Int)] := by
  rw [take_snoc bs k h, wordsL_append _ _ (by simp; omega)]
  rfl
set_option maxRecDepth 100000 in
theorem wordsL_odd (bs : List UInt8) (k : Nat) (h : k + 1 < bs.length) (he : k % 2 = 0) : wordsL (bs.take (k + 2)) = wordsL (bs.take k) ++ [256 * (bs[k].toNat : Int) + bs[k + 1].toNat] := by
  rw [take_snoc bs (k + 1) h, take_snoc bs k (by omega), List.append_assoc, wordsL_append _ _ (by simp; omega)]
  rfl

/-- What OnesSum answers. -/
def onesSum (bs : List UInt8) : Int := if 2000 < bs.length then -1 else sums 0 (wordsL bs)
set_option maxRecDepth 100000 in
theorem onesSum_range (bs : List UInt8) : -1 ≤ onesSum bs ∧ onesSum bs ≤ 65535 := by
  unfold onesSum
  split
  · omega
  · have := isWord_iff.1 (sums_word (wordsL bs) 0 (by decide) (wordsL_word bs))
    omega
set_option maxRecDepth 100000 in
theorem onesSum_word {bs : List UInt8} (h : bs.length ≤ 2000) : isWord (onesSum bs) = true := by
  rw [onesSum, if_neg (by omega)]
  exact sums_word (wordsL bs) 0 (by decide) (wordsL_word bs)
/-- What Checksum answers. -/
def checksum (bs : List UInt8) : Int := comp (onesSum bs)

/-- What SumSwap answers. -/
def swap (check was is : Int) : Int := comp (folded [comp check, comp was, is])
set_option maxRecDepth 100000 in
theorem swap_yes {check was is : Int} (h1 : isWord check = true) (h2 : isWord was = true) (h3 : isWord is = true) : swap check was is = 65535 - sadd (sadd (65535 - check) (65535 - was)) is := by
  have a1 := comp_word h1
  have a2 := comp_word h2
  have e : folded [comp check, comp was, is] = sadd (sadd (65535 - check) (65535 - was)) is := by
    rw [folded_yes (by simp [a1, a2, h3]), sums, List.foldl_cons, sadd_zero a1, comp_yes h1, comp_yes h2]
    rfl
  rw [swap, e, comp_yes]
  have b1 : isWord (65535 - check) = true := by rw [← comp_yes h1]; exact a1
  have b2 : isWord (65535 - was) = true := by rw [← comp_yes h2]; exact a2
  exact sadd_word (sadd_word b1 b2) h3
set_option maxRecDepth 100000 in
theorem swap_no {check was is : Int} (h : isWord check = false ∨ isWord was = false ∨ isWord is = false) : swap check was is = -1 := by
  have e : folded [comp check, comp was, is] = -1 := by
    rcases h with h | h | h
    · exact folded_no 0 (by simp) (by simpa [comp_is] using h)
    · exact folded_no 1 (by simp) (by simpa [comp_is] using h)
    · exact folded_no 2 (by simp) (by simpa using h)
  rw [swap, e]
  rfl
set_option maxRecDepth 100000 in
theorem swap_word {check was is : Int} (h1 : isWord check = true) (h2 : isWord was = true) (h3 : isWord is = true) : isWord (swap check was is) = true := by
  have a1 := comp_word h1
  have a2 := comp_word h2
  rw [swap]
  refine comp_word ?_
  rw [folded_yes (by simp [a1, a2, h3])]
  exact sums_word _ 0 (by decide) (by simp [a1, a2, h3])

/-- The words that SumSwaps folds. -/
def swapWords : List Int → List Int → List Int
  | a :: as_, b :: bs => comp a :: b :: swapWords as_ bs
  | _, _ => []
set_option maxRecDepth 100000 in
theorem swapWords_snoc : ∀ (as_ bs : List Int) (a b : Int), as_.length = bs.length → swapWords (as_ ++ [a]) (bs ++ [b]) = swapWords as_ bs ++ [comp a, b]
  | [], [], _, _, _ => rfl
  | [], _ :: _, _, _, h => by simp at h
  | _ :: _, [], _, _, h => by simp at h
  | x :: as_, y :: bs, a, b, h => by
    have := swapWords_snoc as_ bs a b (by simpa using h)
    simp [swapWords, this]
set_option maxRecDepth 100000 in
theorem swapWords_length : ∀ (as_ bs : List Int), as_.length = bs.length → (swapWords as_ bs).length = 2 * as_.length
  | [], [], _ => rfl
  | [], _ :: _, h => by simp at h
  | _ :: _, [], h => by simp at h
  | x :: as_, y :: bs, h => by
    have := swapWords_length as_ bs (by simpa using h)
    simp only [swapWords, List.length_cons, this]
    omega
set_option maxRecDepth 100000 in
theorem swapWords_all : ∀ (as_ bs : List Int), as_.length = bs.length → ((swapWords as_ bs).all isWord = true ↔ as_.all isWord = true ∧ bs.all isWord = true)
  | [], [], _ => by simp [swapWords]
  | [], _ :: _, h => by simp at h
  | _ :: _, [], h => by simp at h
  | x :: as_, y :: bs, h => by
    have := swapWords_all as_ bs (by simpa using h)
    simp only [swapWords, List.all_cons, Bool.and_eq_true, comp_is, this]
    constructor
    · rintro ⟨a, b, c, d⟩; exact ⟨⟨a, c⟩, b, d⟩
    · rintro ⟨⟨a, c⟩, b, d⟩; exact ⟨a, b, c, d⟩

/-- What SumSwaps answers. -/
def swaps (check : Int) (was is : List Int) : Int := if was.length = is.length ∧ was.length ≤ 40 then comp (folded (comp check :: swapWords was is)) else -1

set_option maxRecDepth 100000 in
/-- The model's way: one exchange behind the other. -/
theorem swaps_step (check : Int) (was is : List Int) (a b : Int) (hl : was.length = is.length) (hl2 : was.length + 1 ≤ 40) (hc : isWord check = true) (hw : was.all isWord = true) (hi : is.all isWord = true) (ha : isWord a = true) (hb : isWord b = true) :
    isWord (swaps check was is) = true ∧ swap (swaps check was is) a b = swaps check (was ++ [a]) (is ++ [b]) := by
  have hall : (comp check :: swapWords was is).all isWord = true := by
    simp only [List.all_cons, Bool.and_eq_true, comp_is]
    exact ⟨hc, (swapWords_all was is hl).2 ⟨hw, hi⟩⟩
  have hs := sums_word _ 0 (by decide) hall
  have e1 : swaps check was is = comp (sums 0 (comp check :: swapWords was is)) := by rw [swaps, if_pos ⟨hl, by omega⟩, folded_yes hall]
  have w1 : isWord (swaps check was is) = true := by rw [e1]; exact comp_word hs
  refine ⟨w1, ?_⟩
  have e0 : swaps check (was ++ [a]) (is ++ [b]) = comp (folded (comp check :: (swapWords was is ++ [comp a, b]))) := by
    rw [swaps, if_pos ⟨by simp [hl], by rw [List.length_append]; exact hl2⟩, swapWords_snoc was is a b hl]
  rw [swap_yes w1 ha hb, e0]
  have hall2 : (comp check :: (swapWords was is ++ [comp a, b])).all isWord = true := by
    simp only [List.all_cons, List.all_append, List.all_nil, Bool.and_eq_true, comp_is]
    simp only [List.all_cons, Bool.and_eq_true, comp_is] at hall
    exact ⟨hall.1, hall.2, ha, hb, trivial⟩
  rw [folded_yes hall2, ← List.cons_append, sums_append, e1, comp_yes hs, comp_yes ha]
  have e2 : sums (sums 0 (comp check :: swapWords was is)) [65535 - a, b] = sadd (sadd (sums 0 (comp check :: swapWords was is)) (65535 - a)) b := rfl
  have ha2 := comp_word ha
  rw [comp_yes ha] at ha2
  rw [e2, comp_yes (sadd_word (sadd_word hs ha2) hb)]
  rw [show (65535 : Int) - (65535 - sums 0 (comp check :: swapWords was is)) = sums 0 (comp check :: swapWords was is) by omega]

set_option maxRecDepth 100000 in
theorem swaps_no {check : Int} {was is : List Int} (h : ¬ (was.length = is.length ∧ was.length ≤ 40)) : swaps check was is = -1 := by rw [swaps, if_neg h]
set_option maxRecDepth 100000 in
theorem swaps_bad {check : Int} {was is : List Int} (hl : was.length = is.length) (h : isWord check = false ∨ was.all isWord = false ∨ is.all isWord = false) : swaps check was is = -1 := by
  rw [swaps]
  split
  · have : (comp check :: swapWords was is).all isWord = false := by
      rw [Bool.eq_false_iff]
      intro ha
      simp only [List.all_cons, Bool.and_eq_true, comp_is] at ha
      have h2 := (swapWords_all was is hl).1 ha.2
      rcases h with h | h | h
      · simp [h] at ha
      · simp [h] at h2
      · simp [h] at h2
    rw [folded, this]
    rfl
  · rfl
set_option maxRecDepth 100000 in
theorem swaps_nil (check : Int) (h : isWord check = true) : swaps check [] [] = check := by
  have a1 := comp_word h
  have hr := isWord_iff.1 h
  have e : folded (comp check :: swapWords [] []) = 65535 - check := by
    rw [folded_yes (by simp [swapWords, a1]), sums, List.foldl_cons, sadd_zero a1, comp_yes h]
    rfl
  rw [swaps, if_pos (by simp), e, comp_yes (isWord_iff.2 (by omega))]
  omega
end Go.Proofs.YtckakpcjbndijabDoor
namespace Go.Proofs.YtckakpcjbndijabDoor
open Go.RowKit

/-- Parts with one byte between them. -/
def joinC (c : UInt8) (xs : List (List UInt8)) : List UInt8 := [c].intercalate xs
set_option maxRecDepth 100000 in
theorem joinC_nil (c : UInt8) : joinC c [] = [] := rfl
set_option maxRecDepth 100000 in
theorem joinC_one (c : UInt8) (x : List UInt8) : joinC c [x] = x := by simp [joinC, List.intercalate]
set_option maxRecDepth 100000 in
theorem joinC_cons (c : UInt8) (x y : List UInt8) (l : List (List UInt8)) : joinC c (x :: y :: l) = x ++ c :: joinC c (y :: l) := by simp [joinC, List.intercalate]
set_option maxRecDepth 100000 in
theorem joinC_snoc (c : UInt8) (x : List UInt8) : ∀ xs : List (List UInt8), xs ≠ [] → joinC c (xs ++ [x]) = joinC c xs ++ c :: x := by
  intro xs
  induction xs with
  | nil => intro h; exact absurd rfl h
  | cons y ys ih =>
    intro _
    cases ys with
    | nil => rw [List.singleton_append, joinC_cons, joinC_one, joinC_one]
    | cons z zs => rw [List.cons_append, List.cons_append, joinC_cons, joinC_cons, ← List.cons_append, ih (by simp), List.append_assoc, List.cons_append]

/-- Hexadecimal text without leading zeros. -/
def hexN (n : Nat) : List UInt8 := if _h : n < 16 then [hexDig n] else hexN (n / 16) ++ [hexDig (n % 16)]
termination_by n
decreasing_by omega
set_option maxRecDepth 100000 in
theorem hexN_small (n : Nat) (h : n < 16) : hexN n = [hexDig n] := by rw [hexN, dif_pos h]
set_option maxRecDepth 100000 in
theorem hexN_big (n : Nat) (h : ¬ n < 16) : hexN n = hexN (n / 16) ++ [hexDig (n % 16)] := by rw [hexN, dif_neg h]
set_option maxRecDepth 100000 in
theorem hexN_len : ∀ k n : Nat, n < 16 ^ (k + 1) → (hexN n).length ≤ k + 1 := by
  intro k
  induction k with
  | zero => intro n h; rw [hexN_small n (by simpa using h)]; simp
  | succ k ih =>
    intro n h
    by_cases h16 : n < 16
    · rw [hexN_small n h16]; simp
    · rw [hexN_big n h16, List.length_append]
      have := ih (n / 16) (by rw [Nat.pow_succ] at h; omega)
      simp
      omega

def numB (b : UInt8) : List UInt8 := numText (b.toNat : Int)
def hexW (n : Int) : List UInt8 := hexN n.toNat
def text4 (bs : List UInt8) : List UInt8 := joinC 46 (bs.map numB)
def text6 (bs : List UInt8) : List UInt8 := joinC 58 ((wordsL bs).map hexW)
/-- The text of an address. -/
def Ad.text (x : Ad) : List UInt8 := if x.ok then (if x.k = 4 then text4 (put32 x.d) else text6 x.whole) else []

set_option maxRecDepth 100000 in
theorem numB_len (b : UInt8) : (numB b).length ≤ 3 := by
  have hb := UInt8.toNat_lt b
  have h := dec_len 3 b.toNat (by omega)
  unfold numB numText
  split
  · simp
  · rw [if_neg (by omega)]
    simpa using h
set_option maxRecDepth 100000 in
theorem hexW_len (n : Int) (h : n ≤ 65535) : (hexW n).length ≤ 4 := hexN_len 3 n.toNat (by omega)
set_option maxRecDepth 100000 in
theorem joinC_len (c : UInt8) (m : Nat) : ∀ xs : List (List UInt8), (∀ x ∈ xs, x.length ≤ m) → (joinC c xs).length ≤ xs.length * (m + 1) := by
  intro xs
  induction xs with
  | nil => intro _; simp [joinC_nil]
  | cons x ys ih =>
    intro h
    have hx := h x (by simp)
    cases ys with
    | nil => rw [joinC_one]; simp; omega
    | cons y zs =>
      have := ih (fun z hz => h z (by simp [hz]))
      rw [joinC_cons, List.length_append, List.length_cons]
      simp only [List.length_cons] at this ⊢
      have e : (zs.length + 1 + 1) * (m + 1) = (zs.length + 1) * (m + 1) + (m + 1) := by rw [Nat.add_mul (zs.length + 1) 1, Nat.one_mul]
      omega
set_option maxRecDepth 100000 in
theorem wordsL_pair (bs : List UInt8) (i : Nat) (h : 2 * i + 1 < bs.length) : (wordsL bs)[i]? = some (256 * (bs[2 * i].toNat : Int) + bs[2 * i + 1].toNat) := by
  induction i generalizing bs with
  | zero =>
    match bs, h with
    | a :: b :: l, _ => simp [wordsL]
  | succ i ih =>
    match bs, h with
    | a :: b :: l, h =>
      have h' : 2 * i + 1 < l.length := by simp at h; omega
      have := ih l h'
      simp only [wordsL, List.getElem?_cons_succ, this]
      congr 1
set_option maxRecDepth 100000 in
theorem wordsL_le (bs : List UInt8) (i : Nat) (n : Int) (h : (wordsL bs)[i]? = some n) : 0 ≤ n ∧ n ≤ 65535 := by
  have hm := List.mem_of_getElem? h
  have := List.all_eq_true.1 (wordsL_word bs) n hm
  exact isWord_iff.1 this
end Go.Proofs.YtckakpcjbndijabDoor
namespace Go.Proofs.YtckakpcjbndijabDoor
open Go.RowKit

/-- The pieces between the bytes c. -/
def splitC (c : UInt8) : List UInt8 → List (List UInt8)
  | [] => [[]]
  | b :: l => if b = c then [] :: splitC c l else match splitC c l with | p :: ps => (b :: p) :: ps | [] => [[b]]
set_option maxRecDepth 100000 in
theorem splitC_ne (c : UInt8) (l : List UInt8) : splitC c l ≠ [] := by
  cases l with
  | nil => simp [splitC]
  | cons b l =>
    simp only [splitC]
    split
    · simp
    · split <;> simp
set_option maxRecDepth 100000 in
theorem splitC_hit (c : UInt8) (l : List UInt8) : splitC c (c :: l) = [] :: splitC c l := by simp [splitC]
set_option maxRecDepth 100000 in
theorem splitC_other (c b : UInt8) (l p : List UInt8) (ps : List (List UInt8)) (h : b ≠ c) (e : splitC c l = p :: ps) : splitC c (b :: l) = (b :: p) :: ps := by simp [splitC, h, e]
set_option maxRecDepth 100000 in
theorem splitC_cons (c : UInt8) (l : List UInt8) : ∃ p ps, splitC c l = p :: ps := by
  cases h : splitC c l with
  | nil => exact absurd h (splitC_ne c l)
  | cons p ps => exact ⟨p, ps, rfl⟩
set_option maxRecDepth 100000 in
theorem split_snoc (c b : UInt8) : ∀ l : List UInt8, ∃ init last, splitC c l = init ++ [last] ∧ splitC c (l ++ [b]) = if b = c then init ++ [last] ++ [[]] else init ++ [last ++ [b]] := by
  intro l
  induction l with
  | nil =>
    refine ⟨[], [], rfl, ?_⟩
    by_cases h : b = c
    · simp [splitC, h]
    · simp [splitC, h]
  | cons a l ih =>
    obtain ⟨init, last, e1, e2⟩ := ih
    by_cases ha : a = c
    · subst ha
      refine ⟨[] :: init, last, by rw [splitC_hit, e1]; rfl, ?_⟩
      rw [List.cons_append, splitC_hit, e2]
      split <;> rfl
    · cases init with
      | nil =>
        refine ⟨[], a :: last, splitC_other c a l last [] ha e1, ?_⟩
        rw [List.cons_append]
        split
        · rename_i hb
          rw [if_pos hb] at e2
          exact splitC_other c a _ last [[]] ha e2
        · rename_i hb
          rw [if_neg hb] at e2
          exact splitC_other c a _ (last ++ [b]) [] ha e2
      | cons q qs =>
        refine ⟨(a :: q) :: qs, last, splitC_other c a l q (qs ++ [last]) ha e1, ?_⟩
        rw [List.cons_append]
        split
        · rename_i hb
          rw [if_pos hb] at e2
          exact splitC_other c a _ q _ ha e2
        · rename_i hb
          rw [if_neg hb] at e2
          exact splitC_other c a _ q _ ha e2
set_option maxRecDepth 100000 in
theorem join_split (c : UInt8) : ∀ l : List UInt8, joinC c (splitC c l) = l := by
  intro l
  induction l with
  | nil => simp [splitC, joinC_one]
  | cons b l ih =>
    obtain ⟨p, ps, e⟩ := splitC_cons c l
    rw [e] at ih
    by_cases h : b = c
    · subst h
      rw [splitC_hit, e, joinC_cons, ih]
      rfl
    · rw [splitC_other c b l p ps h e]
      cases ps with
      | nil => rw [joinC_one] at ih ⊢; rw [ih]
      | cons q qs => rw [joinC_cons] at ih ⊢; rw [← ih]; rfl
set_option maxRecDepth 100000 in
theorem split_one (c : UInt8) : ∀ l : List UInt8, c ∉ l → splitC c l = [l] := by
  intro l
  induction l with
  | nil => intro _; rfl
  | cons b l ih =>
    intro h
    exact splitC_other c b l l [] (fun e => h (by simp [e])) (ih (fun e => h (by simp [e])))
set_option maxRecDepth 100000 in
theorem split_cut (c : UInt8) (r : List UInt8) : ∀ a : List UInt8, c ∉ a → splitC c (a ++ c :: r) = a :: splitC c r := by
  intro a
  induction a with
  | nil => intro _; exact splitC_hit c r
  | cons b a ih =>
    intro h
    exact splitC_other c b _ a _ (fun e => h (by simp [e])) (ih (fun e => h (by simp [e])))
set_option maxRecDepth 100000 in
theorem split_join (c : UInt8) : ∀ ps : List (List UInt8), ps ≠ [] → (∀ p ∈ ps, c ∉ p) → splitC c (joinC c ps) = ps := by
  intro ps
  induction ps with
  | nil => intro h; exact absurd rfl h
  | cons p ps ih =>
    intro _ h
    cases ps with
    | nil => rw [joinC_one]; exact split_one c p (h p (by simp))
    | cons q qs => rw [joinC_cons, split_cut c _ p (h p (by simp)), ih (by simp) (fun x hx => h x (by simp [hx]))]
set_option maxRecDepth 100000 in
theorem split_len_pos (c : UInt8) (l : List UInt8) : 1 ≤ (splitC c l).length := by
  obtain ⟨p, ps, e⟩ := splitC_cons c l
  rw [e]
  simp
set_option maxRecDepth 100000 in
theorem split_mem (c : UInt8) (l : List UInt8) (h : 2 ≤ (splitC c l).length) : c ∈ l := by
  by_cases hc : c ∈ l
  · exact hc
  · rw [split_one c l hc] at h
    simp at h
set_option maxRecDepth 100000 in
theorem join_mem (c : UInt8) (x y : List UInt8) (l : List (List UInt8)) : c ∈ joinC c (x :: y :: l) := by
  rw [joinC_cons]
  simp
set_option maxRecDepth 100000 in
theorem join_not_mem (c d : UInt8) (h : d ≠ c) : ∀ ps : List (List UInt8), (∀ p ∈ ps, d ∉ p) → d ∉ joinC c ps := by
  intro ps
  induction ps with
  | nil => intro _; simp [joinC_nil]
  | cons p ps ih =>
    intro hp
    cases ps with
    | nil => rw [joinC_one]; exact hp p (by simp)
    | cons q qs =>
      rw [joinC_cons]
      have h1 := ih (fun x hx => hp x (by simp [hx]))
      have h2 := hp p (by simp)
      simp only [List.mem_append, List.mem_cons, not_or]
      exact ⟨h2, h, h1⟩
set_option maxRecDepth 100000 in
theorem joinC_len1 (c : UInt8) (m : Nat) : ∀ xs : List (List UInt8), xs ≠ [] → (∀ x ∈ xs, x.length ≤ m) → (joinC c xs).length + 1 ≤ xs.length * (m + 1) := by
  intro xs
  induction xs with
  | nil => intro h; exact absurd rfl h
  | cons x ys ih =>
    intro _ h
    have hx := h x (by simp)
    cases ys with
    | nil => rw [joinC_one]; simp; omega
    | cons y zs =>
      have := ih (by simp) (fun z hz => h z (by simp [hz]))
      rw [joinC_cons, List.length_append, List.length_cons]
      simp only [List.length_cons] at this ⊢
      have e : (zs.length + 1 + 1) * (m + 1) = (zs.length + 1) * (m + 1) + (m + 1) := by rw [Nat.add_mul (zs.length + 1) 1, Nat.one_mul]
      omega

set_option maxRecDepth 100000 in
theorem dec_all : ∀ n : Nat, (dec n).all isDig = true := by
  intro n
  induction n using Nat.strongRecOn with
  | ind n ih =>
    by_cases h : n = 0
    · subst h; rw [dec_zero]; rfl
    · rw [dec_pos n h, List.all_append, ih (n / 10) (by omega)]
      have hd := digit_val (n % 10) (by omega)
      simp only [List.all_cons, List.all_nil, Bool.and_true, Bool.true_and, isDig, decide_eq_true_eq]
      omega
set_option maxRecDepth 100000 in
theorem val_dec : ∀ n : Nat, val (dec n) = n := by
  intro n
  induction n using Nat.strongRecOn with
  | ind n ih =>
    by_cases h : n = 0
    · subst h; rw [dec_zero]; rfl
    · rw [dec_pos n h, val_snoc, ih (n / 10) (by omega)]
      have hd := digit_val (n % 10) (by omega)
      omega
/-- A part of four that reads as a byte. -/
def part4 (p : List UInt8) : Bool := okNum p && decide (val p ≤ 255)
def byte4 (p : List UInt8) : UInt8 := UInt8.ofNat (val p)
set_option maxRecDepth 100000 in
theorem numB_facts (b : UInt8) : (numB b).all isDig = true ∧ val (numB b) = b.toNat ∧ 1 ≤ (numB b).length ∧ ((numB b).length = 1 ∨ (numB b).head? ≠ some 48) := by
  unfold numB numText
  by_cases h : (b.toNat : Int) = 0
  · rw [if_pos h]
    have : b.toNat = 0 := by omega
    rw [this]
    exact ⟨rfl, rfl, by simp, .inl rfl⟩
  · rw [if_neg h, if_neg (by omega), Int.natAbs_natCast]
    have hb : b.toNat ≠ 0 := by omega
    obtain ⟨c, t, e, hc⟩ := dec_head b.toNat hb
    exact ⟨dec_all _, val_dec _, by rw [e]; simp, .inr (by rw [e]; simpa using hc)⟩
set_option maxRecDepth 100000 in
theorem part4_num (b : UInt8) : part4 (numB b) = true ∧ byte4 (numB b) = b := by
  obtain ⟨h1, h2, h3, h4⟩ := numB_facts b
  have hb := UInt8.toNat_lt b
  have hl := numB_len b
  refine ⟨?_, ?_⟩
  · simp only [part4, Bool.and_eq_true, decide_eq_true_eq]
    exact ⟨okNum_yes _ h3 (by omega) h1 h4, by omega⟩
  · unfold byte4
    rw [h2]
    simp
set_option maxRecDepth 100000 in
theorem num_part4 (p : List UInt8) (h : part4 p = true) : numB (byte4 p) = p := by
  simp only [part4, Bool.and_eq_true, decide_eq_true_eq] at h
  obtain ⟨h1, h2⟩ := h
  simp only [okNum, Bool.and_eq_true, decide_eq_true_eq, Bool.or_eq_true, ne_eq] at h1
  unfold numB byte4
  rw [show ((UInt8.ofNat (val p)).toNat : Int) = (val p : Int) by simp; omega]
  exact numText_val p h1.1.2 h1.1.1.1 h1.2

set_option maxRecDepth 100000 in
theorem hexDig_V (a : UInt8) (h : hexV a < 16) : hexDig (hexV a) = a := by
  have := (hexV_dig (hexV a) h a).2 rfl
  exact (UInt8.toNat_inj.1 this).symm
set_option maxRecDepth 100000 in
theorem hexV_D (d : Nat) (h : d < 16) : hexV (hexDig d) = d := (hexV_dig d h (hexDig d)).1 rfl
/-- A group of at most four digits. -/
def valG (p : List UInt8) : Nat := p.foldl (fun n b => 16 * n + hexV b) 0
def okG (p : List UInt8) : Bool := decide (1 ≤ p.length ∧ p.length ≤ 4) && p.all (fun b => decide (hexV b < 16)) && (decide (p.length = 1) || decide (p.head? ≠ some 48))
set_option maxRecDepth 100000 in
theorem hexV_zero (a : UInt8) (h : hexV a = 0) : a = 48 := by
  have := (hexV_dig 0 (by omega) a).2 h
  exact UInt8.toNat_inj.1 this
set_option maxRecDepth 100000 in
theorem hexN1 (a : Nat) (h : a < 16) : hexN a = [hexDig a] := hexN_small a h
set_option maxRecDepth 100000 in
theorem hexN2 (a b : Nat) (h1 : 1 ≤ a) (ha : a < 16) (hb : b < 16) : hexN (16 * a + b) = [hexDig a, hexDig b] := by
  rw [hexN_big _ (by omega), show (16 * a + b) / 16 = a by omega, show (16 * a + b) % 16 = b by omega, hexN1 a ha]
  rfl
set_option maxRecDepth 100000 in
theorem hexN3 (a b c : Nat) (h1 : 1 ≤ a) (ha : a < 16) (hb : b < 16) (hc : c < 16) : hexN (16 * (16 * a + b) + c) = [hexDig a, hexDig b, hexDig c] := by
  rw [hexN_big _ (by omega), show (16 * (16 * a + b) + c) / 16 = 16 * a + b by omega, show (16 * (16 * a + b) + c) % 16 = c by omega, hexN2 a b h1 ha hb]
  rfl
set_option maxRecDepth 100000 in
theorem hexN4 (a b c d : Nat) (h1 : 1 ≤ a) (ha : a < 16) (hb : b < 16) (hc : c < 16) (hd : d < 16) : hexN (16 * (16 * (16 * a + b) + c) + d) = [hexDig a, hexDig b, hexDig c, hexDig d] := by
  rw [hexN_big _ (by omega), show (16 * (16 * (16 * a + b) + c) + d) / 16 = 16 * (16 * a + b) + c by omega, show (16 * (16 * (16 * a + b) + c) + d) % 16 = d by omega, hexN3 a b c h1 ha hb hc]
  rfl
set_option maxRecDepth 100000 in
theorem hex_okG (p : List UInt8) (h : okG p = true) : hexN (valG p) = p ∧ valG p < 65536 := by
  simp only [okG, Bool.and_eq_true, decide_eq_true_eq, Bool.or_eq_true, ne_eq, List.all_eq_true] at h
  obtain ⟨⟨⟨h1, h2⟩, h3⟩, h4⟩ := h
  have nz : ∀ a : UInt8, a ≠ 48 → 1 ≤ hexV a := fun a ha => by
    rcases Nat.eq_zero_or_pos (hexV a) with h0 | h0
    · exact absurd (hexV_zero a h0) ha
    · exact h0
  match p, h1, h2 with
  | [a], _, _ =>
    have ha := h3 a (by simp)
    have e : valG [a] = hexV a := by simp [valG]
    rw [e, hexN1 _ ha, hexDig_V a ha]
    exact ⟨rfl, by omega⟩
  | [a, b], _, _ =>
    have ha := h3 a (by simp)
    have hb := h3 b (by simp)
    have e : valG [a, b] = 16 * hexV a + hexV b := by simp [valG]
    have h0 := nz a (by simpa using h4)
    rw [e, hexN2 _ _ h0 ha hb, hexDig_V a ha, hexDig_V b hb]
    exact ⟨rfl, by omega⟩
  | [a, b, c], _, _ =>
    have ha := h3 a (by simp)
    have hb := h3 b (by simp)
    have hc := h3 c (by simp)
    have e : valG [a, b, c] = 16 * (16 * hexV a + hexV b) + hexV c := by simp [valG]
    have h0 := nz a (by simpa using h4)
    rw [e, hexN3 _ _ _ h0 ha hb hc, hexDig_V a ha, hexDig_V b hb, hexDig_V c hc]
    exact ⟨rfl, by omega⟩
  | [a, b, c, d], _, _ =>
    have ha := h3 a (by simp)
    have hb := h3 b (by simp)
    have hc := h3 c (by simp)
    have hd := h3 d (by simp)
    have e : valG [a, b, c, d] = 16 * (16 * (16 * hexV a + hexV b) + hexV c) + hexV d := by simp [valG]
    have h0 := nz a (by simpa using h4)
    rw [e, hexN4 _ _ _ _ h0 ha hb hc hd, hexDig_V a ha, hexDig_V b hb, hexDig_V c hc, hexDig_V d hd]
    exact ⟨rfl, by omega⟩
set_option maxRecDepth 100000 in
theorem hexDig_ne (d : Nat) (h : d < 16) (h0 : 1 ≤ d) : hexDig d ≠ 48 := by
  intro e
  have h1 := hexV_D d h
  rw [e] at h1
  have : hexV 48 = 0 := by decide
  omega
set_option maxRecDepth 100000 in
theorem okG_hex (n : Nat) (h : n < 65536) : okG (hexN n) = true ∧ valG (hexN n) = n := by
  by_cases h1 : n < 16
  · rw [hexN1 n h1]
    simp [okG, valG, hexV_D n h1, h1]
  · by_cases h2 : n < 256
    · have e : n = 16 * (n / 16) + n % 16 := by omega
      have ha : n / 16 < 16 := by omega
      have hb : n % 16 < 16 := by omega
      have h0 := hexDig_ne (n / 16) ha (by omega)
      have e2 : hexN n = [hexDig (n / 16), hexDig (n % 16)] := by
        conv => lhs; rw [e]
        exact hexN2 _ _ (by omega) ha hb
      rw [e2]
      simp [okG, valG, hexV_D _ ha, hexV_D _ hb, ha, hb, h0]
      omega
    · by_cases h3 : n < 4096
      · have e : n = 16 * (16 * (n / 256) + n / 16 % 16) + n % 16 := by omega
        have ha : n / 256 < 16 := by omega
        have hb : n / 16 % 16 < 16 := by omega
        have hc : n % 16 < 16 := by omega
        have h0 := hexDig_ne (n / 256) ha (by omega)
        have e2 : hexN n = [hexDig (n / 256), hexDig (n / 16 % 16), hexDig (n % 16)] := by
          conv => lhs; rw [e]
          exact hexN3 _ _ _ (by omega) ha hb hc
        rw [e2]
        simp [okG, valG, hexV_D _ ha, hexV_D _ hb, hexV_D _ hc, ha, hb, hc, h0]
        omega
      · have e : n = 16 * (16 * (16 * (n / 4096) + n / 256 % 16) + n / 16 % 16) + n % 16 := by omega
        have ha : n / 4096 < 16 := by omega
        have hb : n / 256 % 16 < 16 := by omega
        have hc : n / 16 % 16 < 16 := by omega
        have hd : n % 16 < 16 := by omega
        have h0 := hexDig_ne (n / 4096) ha (by omega)
        have e2 : hexN n = [hexDig (n / 4096), hexDig (n / 256 % 16), hexDig (n / 16 % 16), hexDig (n % 16)] := by
          conv => lhs; rw [e]
          exact hexN4 _ _ _ _ (by omega) ha hb hc hd
        rw [e2]
        simp [okG, valG, hexV_D _ ha, hexV_D _ hb, hexV_D _ hc, hexV_D _ hd, ha, hb, hc, hd, h0]
        omega
end Go.Proofs.YtckakpcjbndijabDoor
namespace Go.Proofs.YtckakpcjbndijabDoor
open Go.RowKit

/-- The two bytes of a number. -/
def put16N (n : Nat) : List UInt8 := put16 (n : Int)
set_option maxRecDepth 100000 in
theorem put16_words (ns : List Nat) (h : ∀ n ∈ ns, n < 65536) : wordsL (ns.flatMap put16N) = ns.map Int.ofNat := by
  induction ns with
  | nil => rfl
  | cons n ns ih =>
    have hn := h n (by simp)
    have e := ih (fun m hm => h m (by simp [hm]))
    have h1 := byteOf_val ((n : Int) / 256)
    have h2 := byteOf_val (n : Int)
    rw [List.flatMap_cons, List.map_cons, ← e]
    simp only [put16N, put16, List.cons_append, List.nil_append, wordsL]
    congr 1
    simp only [Int.ofNat_eq_natCast]
    omega
set_option maxRecDepth 100000 in
theorem put16_len (ns : List Nat) : (ns.flatMap put16N).length = 2 * ns.length := by
  induction ns with
  | nil => rfl
  | cons n ns ih => rw [List.flatMap_cons, List.length_append, ih]; simp [put16N, put16]; omega
set_option maxRecDepth 100000 in
theorem words_put16 : ∀ bs : List UInt8, bs.length % 2 = 0 → ((wordsL bs).map Int.toNat).flatMap put16N = bs
  | [], _ => rfl
  | [_], h => by simp at h
  | a :: b :: l, h => by
    have ih := words_put16 l (by simp at h; omega)
    have ha := UInt8.toNat_lt a
    have hb := UInt8.toNat_lt b
    simp only [wordsL, List.map_cons, List.flatMap_cons]
    rw [ih]
    have e : (((256 * (a.toNat : Int) + b.toNat).toNat : Nat) : Int) = 256 * a.toNat + b.toNat := by omega
    rw [put16N, e, put16, byteOf_eq _ a (by omega), byteOf_eq _ b (by omega)]
    rfl

/-- What the program reads. -/
def rd4 (s : List UInt8) : Option (List UInt8) := if (splitC 46 s).length = 4 ∧ (splitC 46 s).all part4 = true then some ((splitC 46 s).map byte4) else none
def rd6 (s : List UInt8) : Option (List UInt8) := if (splitC 58 s).length = 8 ∧ (splitC 58 s).all okG = true then some (((splitC 58 s).map valG).flatMap put16N) else none
def rdA (s : List UInt8) : Option Ad := if 58 ∈ s then (rd6 s).map ofA else (rd4 s).map ofA

set_option maxRecDepth 100000 in
theorem numB_no (b c : UInt8) (h : isDig c = false) : c ∉ numB b := fun hm => by
  have := List.all_eq_true.1 (numB_facts b).1 c hm
  rw [h] at this
  cases this
set_option maxRecDepth 100000 in
theorem hexN_no (n : Nat) (h : n < 65536) (c : UInt8) (hc : ¬ hexV c < 16) : c ∉ hexN n := fun hm => by
  have h1 := (okG_hex n h).1
  simp only [okG, Bool.and_eq_true, List.all_eq_true, decide_eq_true_eq] at h1
  exact hc (h1.1.2 c hm)
set_option maxRecDepth 100000 in
theorem text4_split (bs : List UInt8) (h : bs ≠ []) : splitC 46 (text4 bs) = bs.map numB := by
  refine split_join 46 _ (by simpa using h) (fun p hp => ?_)
  obtain ⟨b, _, rfl⟩ := List.mem_map.1 hp
  exact numB_no b 46 (by decide)
set_option maxRecDepth 100000 in
theorem text4_no (bs : List UInt8) : (58 : UInt8) ∉ text4 bs := by
  refine join_not_mem 46 58 (by decide) _ (fun p hp => ?_)
  obtain ⟨b, _, rfl⟩ := List.mem_map.1 hp
  exact numB_no b 58 (by decide)
set_option maxRecDepth 100000 in
theorem words_nat (bs : List UInt8) (n : Int) (h : n ∈ wordsL bs) : n.toNat < 65536 := by
  obtain ⟨j, hj⟩ := List.getElem?_of_mem h
  have := wordsL_le bs j n hj
  omega
set_option maxRecDepth 100000 in
theorem text6_split (bs : List UInt8) (h : wordsL bs ≠ []) : splitC 58 (text6 bs) = (wordsL bs).map hexW := by
  refine split_join 58 _ (by simpa using h) (fun p hp => ?_)
  obtain ⟨n, hn, rfl⟩ := List.mem_map.1 hp
  exact hexN_no _ (words_nat bs n hn) 58 (by decide)
set_option maxRecDepth 100000 in
theorem text6_no (bs : List UInt8) : (46 : UInt8) ∉ text6 bs := by
  refine join_not_mem 58 46 (by decide) _ (fun p hp => ?_)
  obtain ⟨n, hn, rfl⟩ := List.mem_map.1 hp
  exact hexN_no _ (words_nat bs n hn) 46 (by decide)

set_option maxRecDepth 100000 in
theorem rd4_iff (s bs : List UInt8) : rd4 s = some bs ↔ bs.length = 4 ∧ text4 bs = s := by
  unfold rd4
  constructor
  · intro h
    split at h
    · rename_i hc
      obtain ⟨h1, h2⟩ := hc
      have e := Option.some.inj h
      refine ⟨by rw [← e, List.length_map, h1], ?_⟩
      have e2 : bs.map numB = splitC 46 s := by
        rw [← e, List.map_map]
        conv => rhs; rw [← List.map_id (splitC 46 s)]
        refine List.map_congr_left (fun p hp => ?_)
        exact num_part4 p (List.all_eq_true.1 h2 p hp)
      rw [text4, e2, join_split]
    · cases h
  · rintro ⟨h1, rfl⟩
    have e := text4_split bs (by intro e; rw [e] at h1; cases h1)
    rw [e, if_pos ⟨by rw [List.length_map, h1], by
      rw [List.all_eq_true]
      intro p hp
      obtain ⟨b, _, rfl⟩ := List.mem_map.1 hp
      exact (part4_num b).1⟩, List.map_map]
    congr 1
    conv => rhs; rw [← List.map_id bs]
    exact List.map_congr_left (fun b _ => (part4_num b).2)
set_option maxRecDepth 100000 in
theorem rd6_iff (s bs : List UInt8) : rd6 s = some bs ↔ bs.length = 16 ∧ text6 bs = s := by
  unfold rd6
  constructor
  · intro h
    split at h
    · rename_i hc
      obtain ⟨h1, h2⟩ := hc
      have e := Option.some.inj h
      refine ⟨by rw [← e, put16_len, List.length_map, h1], ?_⟩
      have hv : ∀ n ∈ (splitC 58 s).map valG, n < 65536 := fun n hn => by
        obtain ⟨p, hp, rfl⟩ := List.mem_map.1 hn
        exact (hex_okG p (List.all_eq_true.1 h2 p hp)).2
      have e2 : (wordsL bs).map hexW = splitC 58 s := by
        rw [← e, put16_words _ hv, List.map_map, List.map_map]
        conv => rhs; rw [← List.map_id (splitC 58 s)]
        refine List.map_congr_left (fun p hp => ?_)
        exact (hex_okG p (List.all_eq_true.1 h2 p hp)).1
      rw [text6, e2, join_split]
    · cases h
  · rintro ⟨h1, rfl⟩
    have hl : (wordsL bs).length = 8 := by rw [wordsL_length, h1]
    have e := text6_split bs (by intro e; rw [e] at hl; cases hl)
    rw [e, if_pos ⟨by rw [List.length_map, hl], by
      rw [List.all_eq_true]
      intro p hp
      obtain ⟨n, hn, rfl⟩ := List.mem_map.1 hp
      exact (okG_hex _ (words_nat bs n hn)).1⟩, List.map_map]
    congr 1
    conv => rhs; rw [← words_put16 bs (by omega)]
    congr 1
    exact List.map_congr_left (fun n hn => (okG_hex _ (words_nat bs n hn)).2)
set_option maxRecDepth 100000 in
theorem rd6_mem {s bs : List UInt8} (h : rd6 s = some bs) : (58 : UInt8) ∈ s := by
  unfold rd6 at h
  split at h
  · rename_i hc
    exact split_mem 58 s (by omega)
  · cases h
set_option maxRecDepth 100000 in
theorem of4_text (bs : List UInt8) (h : bs.length = 4) : (ofA bs).ok = true ∧ (ofA bs).text = text4 bs ∧ (ofA bs).k = 4 := by
  rw [ofA_four h]
  have hb := be_le4 bs (by omega)
  have hok : (⟨4, 0, 0, 0, (be bs : Int)⟩ : Ad).ok = true := (Ad.ok_iff _).2 (.inl ⟨rfl, rfl, rfl, rfl, by simp, hb⟩)
  refine ⟨hok, ?_, rfl⟩
  unfold Ad.text
  rw [hok, if_pos rfl, if_pos rfl]
  show text4 (put32 (be bs)) = _
  rw [put32_be4 bs h]
set_option maxRecDepth 100000 in
theorem of6_text (bs : List UInt8) (h : bs.length = 16) : (ofA bs).ok = true ∧ (ofA bs).text = text6 bs ∧ (ofA bs).k = 6 := by
  rw [ofA_six h]
  have hok : (unw 6 bs).ok = true := (Ad.ok_iff _).2 (.inr ⟨rfl, ⟨by simp [unw], be_le4 _ (List.length_take_le _ _)⟩, ⟨by simp [unw], be_le4 _ (List.length_take_le _ _)⟩, ⟨by simp [unw], be_le4 _ (List.length_take_le _ _)⟩, by simp [unw], be_le4 _ (List.length_take_le _ _)⟩)
  refine ⟨hok, ?_, rfl⟩
  unfold Ad.text
  rw [hok, if_pos rfl, if_neg (show ¬ (unw 6 bs).k = 4 by simp [unw]), whole_unw 6 bs h]
set_option maxRecDepth 100000 in
/-- What is read is the address that has the text. -/
theorem rdA_iff (s : List UInt8) (x : Ad) : rdA s = some x ↔ x.ok = true ∧ x.text = s := by
  unfold rdA
  constructor
  · intro h
    split at h
    · obtain ⟨bs, h1, rfl⟩ := Option.map_eq_some_iff.1 h
      obtain ⟨hl, rfl⟩ := (rd6_iff s bs).1 h1
      exact ⟨(of6_text bs hl).1, (of6_text bs hl).2.1⟩
    · obtain ⟨bs, h1, rfl⟩ := Option.map_eq_some_iff.1 h
      obtain ⟨hl, rfl⟩ := (rd4_iff s bs).1 h1
      exact ⟨(of4_text bs hl).1, (of4_text bs hl).2.1⟩
  · rintro ⟨hok, rfl⟩
    rcases x.ok_kind hok with hk | hk
    · have e : x.text = text4 (put32 x.d) := by simp [Ad.text, hok, hk]
      rw [e, if_neg (text4_no _), (rd4_iff _ (put32 x.d)).2 ⟨rfl, rfl⟩]
      rw [Option.map_some, ofA_four rfl, be_put32 x.d (x.halves hok).2.2.2]
      have hz := x.ok_four hok hk
      congr 1
      cases x
      simp_all
    · have e : x.text = text6 x.whole := by simp [Ad.text, hok, hk]
      have h6 := (rd6_iff (text6 x.whole) x.whole).2 ⟨x.whole_length, rfl⟩
      rw [e, if_pos (rd6_mem h6), h6, Option.map_some, ofA_six x.whole_length, ← hk, unw_of_ok x hok]
end Go.Proofs.YtckakpcjbndijabDoor
namespace Go.Proofs.YtckakpcjbndijabDoor
open Go.RowKit

def NumPost (l : List UInt8) (w : World) (e : Ending) (w' : World) : Prop := e = .returned (.tuple #[.int .i64 (numR l), .bool (okNum l)]) ∧ Below w.heap.size w w'

set_option maxRecDepth 100000 in
theorem numPost_no {l : List UInt8} {w w' : World} (h : okNum l = false) (hb : Below w.heap.size w w') : NumPost l w (.returned (.tuple #[.int .i64 0, .bool false])) w' := by
  refine ⟨?_, hb⟩
  rw [numR, h]
  rfl
set_option maxRecDepth 100000 in
theorem numPost_yes {l : List UInt8} {w w' : World} (h : okNum l = true) (hb : Below w.heap.size w w') : NumPost l w (.returned (.tuple #[.int .i64 (val l : Int), .bool true])) w' := by
  refine ⟨?_, hb⟩
  rw [numR, h]
  rfl

set_option maxRecDepth 100000 in
theorem val_takeS (s : ByteArray) (k : Nat) (h : k < s.size) : val (s.data.toList.take (k + 1)) = 10 * val (s.data.toList.take k) + ((s[k]'h).toNat - 48) := val_take s.data.toList k h
set_option maxRecDepth 100000 in
theorem all_takeS (s : ByteArray) (k : Nat) (h : k < s.size) (ha : (s.data.toList.take k).all isDig = true) (hd : isDig (s[k]'h) = true) : (s.data.toList.take (k + 1)).all isDig = true := by
  rw [all_take s.data.toList k h, ha, Bool.true_and]
  exact hd
set_option maxRecDepth 100000 in
theorem okNum_digS (s : ByteArray) (k : Nat) (h : k < s.size) (hd : isDig (s[k]'h) = false) : okNum s.data.toList = false := okNum_dig s.data.toList k h hd

set_option maxRecDepth 100000 in
set_option maxHeartbeats 400000 in
theorem withinR_yes (n lo hi : Int) (w : World) (h1 : lo ≤ n) (h2 : n ≤ hi) :
    Calls Tryd.prog 73 #[.int .i32 n, .int .i32 lo, .int .i32 hi] w fun e w' => e = .returned (.bool true) ∧ w = w' := by
  have h3 : ¬ n < lo := by omega
  have h4 : ¬ hi < n := by omega
  go_enter Tryd.func73, Tryd.ntmps73
  go_wp2
  go_ret
  exact ⟨rfl, rfl⟩

set_option maxRecDepth 100000 in
set_option maxHeartbeats 400000 in
theorem withinR_no (n lo hi : Int) (w : World) (h : n < lo ∨ hi < n) :
    Calls Tryd.prog 73 #[.int .i32 n, .int .i32 lo, .int .i32 hi] w fun e w' => e = .returned (.bool false) ∧ w = w' := by
  by_cases h1 : n < lo
  · have h2 : (lo == n) = false := by simp; omega
    go_enter Tryd.func73, Tryd.ntmps73
    go_wp2
    go_ret
    exact ⟨rfl, rfl⟩
  · have h3 : hi < n := by omega
    have h2 : (hi == n) = false := by simp; omega
    go_enter Tryd.func73, Tryd.ntmps73
    go_wp2
    go_ret
    exact ⟨rfl, rfl⟩

set_option maxRecDepth 100000 in
set_option maxHeartbeats 1000000 in
theorem implNumRead_len (s : ByteArray) (w : World) (hs : s.size ≤ 1048576) (h : ¬ (1 ≤ s.size ∧ s.size ≤ 12)) :
    Calls Tryd.prog 46 #[.string s] w (NumPost s.data.toList w) := by
  have hno := Lib.hid (show (s.size : Int) < 1 ∨ (12 : Int) < s.size by omega)
  have hok := Lib.hid (okNum_len s.data.toList h)
  clear h
  go_enter Tryd.func46, Tryd.ntmps46
  go_wp2_with (go_at_call 70; refine (within_no _ _ _ _ hno.out).mono ?_; rintro e w' ⟨rfl, rfl⟩)
  go_ret2
  exact numPost_no hok.out (Below.refl _ _)

set_option maxRecDepth 100000 in
set_option maxHeartbeats 1000000 in
theorem implNumRead_zero (s : ByteArray) (w : World) (h1 : 1 < s.size) (h2 : s.size ≤ 12) (h0 : s[0].toNat = 48) :
    Calls Tryd.prog 46 #[.string s] w (NumPost s.data.toList w) := by
  have hok := Lib.hid (okNum_zero s.data.toList h1 (by
    rw [List.head?_eq_getElem?, List.getElem?_eq_getElem (by simpa using (show 0 < s.size by omega))]
    have : s.data.toList[0]'(by simpa using (show 0 < s.size by omega)) = s[0] := rfl
    rw [this]
    have e : s[0] = 48 := UInt8.toNat_inj.1 h0
    rw [e]))
  have h48 : ((s[0].toNat : Int) == 48) = true := by simp; omega
  clear h0
  go_enter Tryd.func46, Tryd.ntmps46
  go_wp2_with (go_at_call 70; refine (within_yes _ _ _ _ (by omega) (by omega)).mono ?_; rintro e w' ⟨rfl, rfl⟩)
  go_ret2
  exact numPost_no hok.out (Below.refl _ _)

set_option maxRecDepth 100000 in
set_option maxHeartbeats 1000000 in
theorem implNumRead_loop (s : ByteArray) (w : World) (h1 : 1 ≤ s.size) (h2 : s.size ≤ 12) (h0 : s.size = 1 ∨ s[0].toNat ≠ 48) :
    Calls Tryd.prog 46 #[.string s] w (NumPost s.data.toList w) := by
  have hhead := Lib.hid (show s.data.toList.length = 1 ∨ s.data.toList.head? ≠ some 48 by
    rcases h0 with h | h
    · exact .inl h
    · right
      intro e
      apply h
      rw [List.head?_eq_getElem?, List.getElem?_eq_getElem (by simpa using (show 0 < s.size by omega))] at e
      have e2 : s.data.toList[0]'(by simpa using (show 0 < s.size by omega)) = s[0] := rfl
      rw [e2] at e
      injection e with e
      rw [e]
      rfl)
  have h48 : s.size ≠ 1 → ((s[0].toNat : Int) == 48) = false := by intro h; simp; omega
  by_cases hone : s.size = 1
  · have hgt : ¬ (1 : Int) < s.size := by omega
    clear h0 h48
    go_enter Tryd.func46, Tryd.ntmps46
    go_wp2_with (go_at_call 70; refine (within_yes _ _ _ _ (by omega) (by omega)).mono ?_; rintro e w' ⟨rfl, rfl⟩)
    go_loopw [4] (fun q wr => ∃ k : Nat, k ≤ s.size ∧ q = .int .i64 (val (s.data.toList.take k) : Int) ∧ (s.data.toList.take k).all isDig = true ∧ wr.heap[w.heap.size]? = some (.stringIter s k) ∧ Below w.heap.size w wr) (fun _ wr => s.size - wr.iterPos w.heap.size)
    case atStart => exact ⟨0, Nat.zero_le _, rfl, rfl, World.iter_heap _ _ _, (Below.refl _ _).alloc (Nat.le_refl _) _⟩
    case round =>
      obtain ⟨k, hk, rfl, hall, hit, hb⟩ := hrel
      have hsz : w.heap.size < wr.heap.size := (Array.getElem?_eq_some_iff.1 hit).1
      have hv := val_lt (s.data.toList.take k) hall (Nat.le_trans (List.length_take_le _ _) (by omega))
      by_cases hlt : k < s.size
      · have hl : k < s.data.toList.length := by simpa using hlt
        by_cases hdig : isDig (s[k]'hlt) = true
        · have hd := isDig_of _ hdig
          have hnx : ∀ ty, (Instr.next (.pointer (some ⟨w.heap.size, 0, none⟩)) true ty).run Tryd.prog wr = _ := fun ty => Lib.run_next_ascii_at wr w.heap.size s k ty hit hlt (by omega)
          have hit2 := Lib.hid (Lib.iterAt_heap wr w.heap.size s k (k + 1) hit)
          have hb2 := Lib.hid (Lib.below_iterAt hb (k := w.heap.size) (Nat.le_refl _) s (k + 1))
          have hvt := Lib.hid (val_takeS s k hlt)
          have hat := Lib.hid (all_takeS s k hlt hall hdig)
          have hit := Lib.hid hit
          clear hall
          go_wp2_with (go_at_call 73; refine (withinR_yes _ _ _ _ (by omega) (by omega)).mono ?_; rintro e w' ⟨rfl, rfl⟩)
          go_roundw
          case rel => exact ⟨k + 1, by omega, by rw [hvt.out]; go_num, hat.out, hit2.out, hb2.out⟩
          case measure => simp only [World.iterPos, hit2.out, hit.out]; omega
        · have hok := Lib.hid (okNum_digS s k hlt (by simpa using hdig))
          have hno : ∃ r : Nat, (Utf8.decode s k).1 = r ∧ (r < 48 ∨ 57 < r) ∧ r ≤ 2147483647 := by
            refine ⟨_, rfl, ?_, decode_le s k⟩
            by_cases ha : (s[k]'hlt).toNat < 128
            · rw [decode_ascii s k hlt ha]
              simp only [isDig, decide_eq_true_eq] at hdig
              omega
            · have := (decode_high s k hlt (by omega)).1
              omega
          obtain ⟨r, hr, hr2, hr3⟩ := hno
          have hnx : ∀ ty, (Instr.next (.pointer (some ⟨w.heap.size, 0, none⟩)) true ty).run Tryd.prog wr = .ok (.tuple #[.bool true, .int .i64 k, .int .i32 r]) (wr.iterAt w.heap.size s (k + (Utf8.decode s k).2)) := fun ty => by
            rw [← hr]
            exact Lib.run_next_any_at wr w.heap.size s k ty hit hlt
          have hb2 := Lib.hid (Lib.below_iterAt hb (k := w.heap.size) (Nat.le_refl _) s (k + (Utf8.decode s k).2))
          have hr4 := Lib.hid (show (r : Int) < 48 ∨ (57 : Int) < r by omega)
          clear hr hr2 hit hdig hall
          go_wp2_with (go_at_call 73; refine (withinR_no _ _ _ _ hr4.out).mono ?_; rintro e w' ⟨rfl, rfl⟩)
          go_ret2
          exact numPost_no hok.out hb2.out
      · obtain rfl : k = s.size := by omega
        have hnx : ∀ ty, (Instr.next (.pointer (some ⟨w.heap.size, 0, none⟩)) true ty).run Tryd.prog wr = _ := fun ty => Lib.run_next_end_at wr w.heap.size s s.size ty hit hlt
        have hfull : s.data.toList.take s.size = s.data.toList := List.take_of_length_le (by simp)
        rw [hfull] at hall
        have hok := Lib.hid (okNum_yes s.data.toList h1 h2 hall hhead.out)
        rw [hfull]
        clear hall hfull
        go_wp2
        go_ret2
        exact numPost_yes hok.out hb
  · have h48 := h48 hone
    have hgt : (1 : Int) < s.size := by omega
    clear h0
    go_enter Tryd.func46, Tryd.ntmps46
    go_wp2_with (go_at_call 70; refine (within_yes _ _ _ _ (by omega) (by omega)).mono ?_; rintro e w' ⟨rfl, rfl⟩)
    go_loopw [4] (fun q wr => ∃ k : Nat, k ≤ s.size ∧ q = .int .i64 (val (s.data.toList.take k) : Int) ∧ (s.data.toList.take k).all isDig = true ∧ wr.heap[w.heap.size]? = some (.stringIter s k) ∧ Below w.heap.size w wr) (fun _ wr => s.size - wr.iterPos w.heap.size)
    case atStart => exact ⟨0, Nat.zero_le _, rfl, rfl, World.iter_heap _ _ _, (Below.refl _ _).alloc (Nat.le_refl _) _⟩
    case round =>
      obtain ⟨k, hk, rfl, hall, hit, hb⟩ := hrel
      have hsz : w.heap.size < wr.heap.size := (Array.getElem?_eq_some_iff.1 hit).1
      have hv := val_lt (s.data.toList.take k) hall (Nat.le_trans (List.length_take_le _ _) (by omega))
      by_cases hlt : k < s.size
      · have hl : k < s.data.toList.length := by simpa using hlt
        by_cases hdig : isDig (s[k]'hlt) = true
        · have hd := isDig_of _ hdig
          have hnx : ∀ ty, (Instr.next (.pointer (some ⟨w.heap.size, 0, none⟩)) true ty).run Tryd.prog wr = _ := fun ty => Lib.run_next_ascii_at wr w.heap.size s k ty hit hlt (by omega)
          have hit2 := Lib.hid (Lib.iterAt_heap wr w.heap.size s k (k + 1) hit)
          have hb2 := Lib.hid (Lib.below_iterAt hb (k := w.heap.size) (Nat.le_refl _) s (k + 1))
          have hvt := Lib.hid (val_takeS s k hlt)
          have hat := Lib.hid (all_takeS s k hlt hall hdig)
          have hit := Lib.hid hit
          clear hall
          go_wp2_with (go_at_call 73; refine (withinR_yes _ _ _ _ (by omega) (by omega)).mono ?_; rintro e w' ⟨rfl, rfl⟩)
          go_roundw
          case rel => exact ⟨k + 1, by omega, by rw [hvt.out]; go_num, hat.out, hit2.out, hb2.out⟩
          case measure => simp only [World.iterPos, hit2.out, hit.out]; omega
        · have hok := Lib.hid (okNum_digS s k hlt (by simpa using hdig))
          have hno : ∃ r : Nat, (Utf8.decode s k).1 = r ∧ (r < 48 ∨ 57 < r) ∧ r ≤ 2147483647 := by
            refine ⟨_, rfl, ?_, decode_le s k⟩
            by_cases ha : (s[k]'hlt).toNat < 128
            · rw [decode_ascii s k hlt ha]
              simp only [isDig, decide_eq_true_eq] at hdig
              omega
            · have := (decode_high s k hlt (by omega)).1
              omega
          obtain ⟨r, hr, hr2, hr3⟩ := hno
          have hnx : ∀ ty, (Instr.next (.pointer (some ⟨w.heap.size, 0, none⟩)) true ty).run Tryd.prog wr = .ok (.tuple #[.bool true, .int .i64 k, .int .i32 r]) (wr.iterAt w.heap.size s (k + (Utf8.decode s k).2)) := fun ty => by
            rw [← hr]
            exact Lib.run_next_any_at wr w.heap.size s k ty hit hlt
          have hb2 := Lib.hid (Lib.below_iterAt hb (k := w.heap.size) (Nat.le_refl _) s (k + (Utf8.decode s k).2))
          have hr4 := Lib.hid (show (r : Int) < 48 ∨ (57 : Int) < r by omega)
          clear hr hr2 hit hdig hall
          go_wp2_with (go_at_call 73; refine (withinR_no _ _ _ _ hr4.out).mono ?_; rintro e w' ⟨rfl, rfl⟩)
          go_ret2
          exact numPost_no hok.out hb2.out
      · obtain rfl : k = s.size := by omega
        have hnx : ∀ ty, (Instr.next (.pointer (some ⟨w.heap.size, 0, none⟩)) true ty).run Tryd.prog wr = _ := fun ty => Lib.run_next_end_at wr w.heap.size s s.size ty hit hlt
        have hfull : s.data.toList.take s.size = s.data.toList := List.take_of_length_le (by simp)
        rw [hfull] at hall
        have hok := Lib.hid (okNum_yes s.data.toList h1 h2 hall hhead.out)
        rw [hfull]
        clear hall hfull
        go_wp2
        go_ret2
        exact numPost_yes hok.out hb

set_option maxRecDepth 100000 in
set_option maxHeartbeats 1000000 in
theorem specNumRead (s : ByteArray) (w : World) (hs : s.size ≤ 1048576) :
    Calls Tryd.prog 44 #[.string s] w (NumPost s.data.toList w) := by
  by_cases hlo : s.size < 1
  · have hok := Lib.hid (okNum_len s.data.toList (show ¬ (1 ≤ s.size ∧ s.size ≤ 12) by omega))
    go_enter Tryd.func44, Tryd.ntmps44
    go_wp2
    go_ret2
    exact numPost_no hok.out (Below.refl _ _)
  · by_cases hhi : 12 < s.size
    · have hok := Lib.hid (okNum_len s.data.toList (show ¬ (1 ≤ s.size ∧ s.size ≤ 12) by omega))
      go_enter Tryd.func44, Tryd.ntmps44
      go_wp2
      go_ret2
      exact numPost_no hok.out (Below.refl _ _)
    · go_enter Tryd.func44, Tryd.ntmps44
      go_wp2
      go_loop [4, 5] (fun q i => ∃ k : Nat, k ≤ s.size ∧ i = .int .i64 k ∧ q = .int .i64 (val (s.data.toList.take k) : Int) ∧ (s.data.toList.take k).all isDig = true) (fun _ i => s.size - (intOf i).toNat)
      case atStart => exact ⟨0, Nat.zero_le _, rfl, rfl, rfl⟩
      case round =>
        obtain ⟨k, hk, rfl, rfl, hall⟩ := hrel
        have hv := val_lt (s.data.toList.take k) hall (Nat.le_trans (List.length_take_le _ _) (by omega))
        by_cases hlt : k < s.size
        · by_cases hdig : isDig (s[k]'hlt) = true
          · have hd := isDig_of _ hdig
            have hvt := Lib.hid (val_takeS s k hlt)
            have hat := Lib.hid (all_takeS s k hlt hall hdig)
            have hd1 : ¬ ((s[k]'hlt).toNat : Int) < 48 := by omega
            have hd2 : ¬ (57 : Int) < ((s[k]'hlt).toNat : Int) := by omega
            clear hall hdig
            go_wp2
            go_round
            case rel => exact ⟨k + 1, by omega, by go_num, by rw [hvt.out]; go_num, hat.out⟩
            case measure => simp [intOf]; omega
          · have hok := Lib.hid (okNum_digS s k hlt (by simpa using hdig))
            simp only [isDig, decide_eq_true_eq] at hdig
            by_cases hd1 : ((s[k]'hlt).toNat : Int) < 48
            · clear hall hdig
              go_wp2
              go_ret2
              exact numPost_no hok.out (Below.refl _ _)
            · have hd2 : (57 : Int) < ((s[k]'hlt).toNat : Int) := by omega
              clear hall hdig
              go_wp2
              go_ret2
              exact numPost_no hok.out (Below.refl _ _)
        · obtain rfl : k = s.size := by omega
          have hfull : s.data.toList.take s.size = s.data.toList := List.take_of_length_le (by simp)
          rw [hfull] at hall hv
          rw [hfull]
          have hall := Lib.hid hall
          clear hfull
          by_cases heq : numText (val s.data.toList : Int) = s.data.toList
          · have h3 : s.data.toList.length = 1 ∨ s.data.toList.head? ≠ some 48 := by
              by_cases h3 : s.data.toList.length = 1
              · exact .inl h3
              · right
                intro h4
                exact numText_not s.data.toList (show 1 < s.size by have : s.size ≠ 1 := h3; omega) h4 heq
            have hok := Lib.hid (okNum_yes s.data.toList (show 1 ≤ s.size by omega) (show s.size ≤ 12 by omega) hall.out h3)
            have hsame : (!(strOf (numText (val s.data.toList : Int))).toList == s.toList) = false := by rw [heq, strOf_toList]; simp
            clear heq h3
            go_wp2_with (go_at_call 29; refine (specNumText _ _ (by omega)).mono ?_; rintro e w1 ⟨rfl, hb1⟩)
            go_ret2
            exact numPost_yes hok.out hb1
          · have hok := Lib.hid (show okNum s.data.toList = false by
              rcases Bool.eq_false_or_eq_true (okNum s.data.toList) with h | h
              · simp only [okNum, Bool.and_eq_true, Bool.or_eq_true, decide_eq_true_eq] at h
                exact absurd (numText_val s.data.toList h.1.2 h.1.1.1 h.2) heq
              · exact h)
            have hsame : (!(strOf (numText (val s.data.toList : Int))).toList == s.toList) = true := by
              simp
              intro e
              apply heq
              rw [ByteArray.toList_eq, ByteArray.toList_eq] at e
              exact e
            clear heq
            go_wp2_with (go_at_call 29; refine (specNumText _ _ (by omega)).mono ?_; rintro e w1 ⟨rfl, hb1⟩)
            go_ret2
            exact numPost_no hok.out hb1

set_option maxRecDepth 100000 in
theorem implNumRead (s : ByteArray) (w : World) (hs : s.size ≤ 1048576) : Calls Tryd.prog 46 #[.string s] w (NumPost s.data.toList w) := by
  by_cases h : 1 ≤ s.size ∧ s.size ≤ 12
  · by_cases h0 : s.size = 1 ∨ (s[0]'(by omega)).toNat ≠ 48
    · exact implNumRead_loop s w h.1 h.2 h0
    · exact implNumRead_zero s w (by omega) h.2 (by omega)
  · exact implNumRead_len s w hs h
end Go.Proofs.YtckakpcjbndijabDoor
namespace Go.Proofs.YtckakpcjbndijabDoor
open Go.RowKit

def HexPost (l : List UInt8) (w : World) (e : Ending) (w' : World) : Prop :=
  ∃ A c, e = .returned (.tuple #[.slice A (hexR l).length c, .bool (okHex l)]) ∧ w'.ownsRow w.heap.size 5 1 (.slice A (hexR l).length c) (hexR l).length (cellsOf (hexR l)) ∧ Below w.heap.size w w'

set_option maxRecDepth 100000 in
theorem hexPost_no {l : List UInt8} {w w' : World} (h : okHex l = false) (hb : Below w.heap.size w w') : HexPost l w (.returned (.tuple #[.slice none 0 0, .bool false])) w' := by
  refine ⟨none, 0, ?_, ?_, hb⟩
  · rw [hexR, h]; rfl
  · rw [hexR, h]; exact World.ownsRow_nil _ _ _ _
set_option maxRecDepth 100000 in
theorem hexPost_yes {l : List UInt8} {w w' : World} {A : Option Addr} {n c : Nat} (h : okHex l = true) (hn : n = l.length / 2) (ho : w'.ownsRow w.heap.size 5 1 (.slice A n c) n (cellsOf (hexBytes l))) (hb : Below w.heap.size w w') :
    HexPost l w (.returned (.tuple #[.slice A n c, .bool true])) w' := by
  have e : hexR l = hexBytes l := by rw [hexR, h]; rfl
  refine ⟨A, c, ?_, ?_, hb⟩
  · rw [e, hexBytes_length, h, hn]
  · rw [e, hexBytes_length, ← hn]; exact ho

set_option maxRecDepth 100000 in
set_option maxHeartbeats 400000 in
theorem implDigit (b : UInt8) (w : World) (h : hexV b < 16) :
    Calls Tryd.prog 91 #[.int .i32 (b.toNat : Int)] w fun e w' => e = .returned (.tuple #[.int .u8 (hexV b : Int), .bool true]) ∧ w = w' := by
  by_cases h1 : 48 ≤ b.toNat ∧ b.toNat ≤ 57
  · have hv : hexV b = b.toNat - 48 := by rw [hexV, if_pos h1]
    rw [hv]
    obtain ⟨h2, h3⟩ := h1
    clear hv h
    go_enter Tryd.func91, Tryd.ntmps91
    go_wp2_with (go_at_call 73; refine (withinR_yes _ _ _ _ (by omega) (by omega)).mono ?_; rintro e w' ⟨rfl, rfl⟩)
    go_ret2
    refine ⟨?_, rfl⟩
    rw [show ((b.toNat - 48 : Nat) : Int) = (b.toNat : Int) - 48 by omega]
    rfl
  · by_cases h4 : 97 ≤ b.toNat ∧ b.toNat ≤ 102
    · have hv : hexV b = b.toNat - 87 := by rw [hexV, if_neg h1, if_pos h4]
      rw [hv]
      obtain ⟨h2, h3⟩ := h4
      have hno := Lib.hid (show (b.toNat : Int) < 48 ∨ (57 : Int) < b.toNat by omega)
      clear hv h h1
      go_enter Tryd.func91, Tryd.ntmps91
      go_wp2_with fail
      refine (withinR_no _ _ _ _ hno.out).mono ?_
      rintro e w' ⟨rfl, rfl⟩
      go_wp2_with fail
      refine (withinR_yes _ _ _ _ (by omega) (by omega)).mono ?_
      rintro e w' ⟨rfl, rfl⟩
      go_wp2
      go_ret2
      refine ⟨?_, rfl⟩
      rw [show ((b.toNat - 87 : Nat) : Int) = (b.toNat : Int) - 97 + 10 by omega]
      rfl
    · rw [hexV, if_neg h1, if_neg h4] at h
      omega

set_option maxRecDepth 100000 in
set_option maxHeartbeats 400000 in
theorem implDigit_no (r : Int) (w : World) (h1 : r < 48 ∨ 57 < r) (h2 : r < 97 ∨ 102 < r) :
    Calls Tryd.prog 91 #[.int .i32 r] w fun e w' => e = .returned (.tuple #[.int .u8 0, .bool false]) ∧ w = w' := by
  have H1 := Lib.hid h1
  have H2 := Lib.hid h2
  clear h1 h2
  go_enter Tryd.func91, Tryd.ntmps91
  go_wp2_with fail
  refine (withinR_no _ _ _ _ H1.out).mono ?_
  rintro e w' ⟨rfl, rfl⟩
  go_wp2_with fail
  refine (withinR_no _ _ _ _ H2.out).mono ?_
  rintro e w' ⟨rfl, rfl⟩
  go_wp2
  go_ret2
  exact ⟨rfl, rfl⟩

set_option maxRecDepth 100000 in
theorem or_nib (x d : Nat) (hx : x < 16) (hd : d < 16) : bits .or .u8 ((x : Int) * 16) (d : Int) = (x : Int) * 16 + d := by
  have e : ((x : Int) * 16) = ((16 * x : Nat) : Int) := by omega
  have ho : 16 * x ||| d = 16 * x + d := (Nat.two_pow_add_eq_or_of_lt (i := 4) (by simpa using hd) x).symm
  have t : ∀ n : Nat, n < 256 → (BitVec.ofInt 8 (n : Int)).toNat = n := fun n hn => by
    rw [BitVec.ofInt_natCast, BitVec.toNat_ofNat]
    exact Nat.mod_eq_of_lt (by omega)
  rw [e]
  show IntKind.u8.wrap ((BitVec.ofInt 8 ((16 * x : Nat) : Int) ||| BitVec.ofInt 8 (d : Int)).toNat : Int) = _
  rw [BitVec.toNat_or, t _ (by omega), t d (by omega), ho, IntKind.wrap_u8]
  omega

set_option maxRecDepth 100000 in
theorem grown_iterAt (w : World) (k : Nat) (s : ByteArray) (pos : Nat) : w.grownBy (w.iterAt k s pos) (some k) :=
  ⟨rfl, rfl, rfl, by rw [Lib.iterAt_size]; exact Nat.le_refl _, fun i _ hne => Lib.iterAt_other w k i s pos (fun e => hne (by rw [e]))⟩

set_option maxRecDepth 100000 in
theorem cell_byte (n : Nat) (h : n < 256) : ((UInt8.ofNat n).toNat : Int) = n := by
  simp
  omega

set_option maxRecDepth 100000 in
theorem hexAtS (s : ByteArray) (i : Nat) (h : i < s.size) : hexAt s.data.toList i = hexV (s[i]'h) := hexAt_get s.data.toList i h
set_option maxRecDepth 100000 in
theorem okHex_badS (s : ByteArray) (i : Nat) (h : i < s.size) (hb : ¬ hexV (s[i]'h) < 16) : okHex s.data.toList = false := okHex_bad s.data.toList i h hb

set_option maxRecDepth 100000 in
theorem hexRow_stored (l : List UInt8) (i x d : Nat) (hx : hexSt l i (i / 2) = x) (hd : hexAt l i = d) (h1 : x < 16) (h2 : d < 16) :
    (cellsOf (hexRow l i)).set (i / 2) (.int .u8 ((x : Int) * 16 + d)) = cellsOf (hexRow l (i + 1)) := by
  rw [← hexRow_step, hx, hd]
  have e : (((UInt8.ofNat (16 * x + d)).toNat : Nat) : Int) = (x : Int) * 16 + d := by rw [cell_byte _ (by omega)]; omega
  rw [← e]
  simp [cellsOf, List.map_set]

end Go.Proofs.YtckakpcjbndijabDoor
namespace Go.Proofs.YtckakpcjbndijabDoor
open Go.RowKit

/-- The model's search: the digit below k that a is, or -1. -/
def seen (a : UInt8) (k : Nat) : Int := if hexV a < k ∧ hexV a < 16 then (hexV a : Int) else -1
set_option maxRecDepth 100000 in
theorem seen_zero (a : UInt8) : seen a 0 = -1 := by rw [seen, if_neg (by omega)]
set_option maxRecDepth 100000 in
theorem seen_hit (a : UInt8) (k : Nat) (h : k < 16) (e : a.toNat = (hexDig k).toNat) : seen a (k + 1) = k := by
  have e1 := (hexV_dig k h a).1 e
  rw [seen, if_pos (by omega), e1]
set_option maxRecDepth 100000 in
theorem seen_miss (a : UInt8) (k : Nat) (h : k < 16) (e : ¬ a.toNat = (hexDig k).toNat) : seen a (k + 1) = seen a k := by
  have e1 : ¬ hexV a = k := fun h1 => e ((hexV_dig k h a).2 h1)
  unfold seen
  by_cases hc : hexV a < k ∧ hexV a < 16
  · rw [if_pos hc, if_pos (by omega)]
  · rw [if_neg hc, if_neg (by omega)]

/-- The value of digits to a base. -/
def valB (B : Nat) (l : List UInt8) : Nat := l.foldl (fun n b => B * n + hexV b) 0
set_option maxRecDepth 100000 in
theorem valB_snoc (B : Nat) (l : List UInt8) (b : UInt8) : valB B (l ++ [b]) = B * valB B l + hexV b := by simp [valB]
set_option maxRecDepth 100000 in
theorem valB_takeS (B : Nat) (s : ByteArray) (k : Nat) (h : k < s.size) : valB B (s.data.toList.take (k + 1)) = B * valB B (s.data.toList.take k) + hexV (s[k]'h) := by
  rw [take_snoc s.data.toList k h, valB_snoc]
  rfl
set_option maxRecDepth 100000 in
theorem valB_lt (B : Nat) (hB : B ≤ 16) (l : List UInt8) (h : ∀ b ∈ l, hexV b < B) : valB B l < 16 ^ l.length := by
  obtain ⟨n, hn⟩ : ∃ n, l.length = n := ⟨_, rfl⟩
  induction n generalizing l with
  | zero =>
    obtain rfl : l = [] := List.eq_nil_of_length_eq_zero hn
    simp [valB]
  | succ n ih =>
    obtain ⟨i, b, rfl⟩ : ∃ i b, l = i ++ [b] := by
      rcases List.eq_nil_or_concat l with h | ⟨i, b, h⟩
      · rw [h] at hn; cases hn
      · exact ⟨i, b, by rw [h, List.concat_eq_append]⟩
    have h1 := ih i (fun c hc => h c (by simp [hc])) (by simp at hn; omega)
    have h2 := h b (by simp)
    rw [valB_snoc, List.length_append, List.length_singleton, Nat.pow_succ]
    have h3 : B * valB B i ≤ 16 * valB B i := Nat.mul_le_mul_right _ hB
    omega
def vB (B : Nat) (l : List UInt8) : Int := if 1 ≤ l.length ∧ l.length ≤ 4 ∧ l.all (fun b => decide (hexV b < B)) = true then (valB B l : Int) else -1
set_option maxRecDepth 100000 in
theorem vB_len (B : Nat) (l : List UInt8) (h : ¬ (1 ≤ l.length ∧ l.length ≤ 4)) : vB B l = -1 := by rw [vB, if_neg (fun c => h ⟨c.1, c.2.1⟩)]
set_option maxRecDepth 100000 in
theorem vB_bad (B : Nat) (s : ByteArray) (k : Nat) (h : k < s.size) (hd : ¬ hexV (s[k]'h) < B) : vB B s.data.toList = -1 := by
  have : (s.data.toList.all fun b => decide (hexV b < B)) = false := by
    rw [List.all_eq_false]
    exact ⟨s[k], List.getElem_mem (l := s.data.toList) h, by simpa using hd⟩
  rw [vB, this, if_neg (by simp)]
set_option maxRecDepth 100000 in
theorem vB_yes (B : Nat) (l : List UInt8) (h1 : 1 ≤ l.length) (h2 : l.length ≤ 4) (hd : ∀ b ∈ l, hexV b < B) : vB B l = valB B l := by
  rw [vB, if_pos ⟨h1, h2, List.all_eq_true.2 (fun b hb => by simpa using hd b hb)⟩]
set_option maxRecDepth 100000 in
theorem take_allB (B : Nat) (s : ByteArray) (k : Nat) (h : k < s.size) (ha : ∀ b ∈ s.data.toList.take k, hexV b < B) (hd : hexV (s[k]'h) < B) : ∀ b ∈ s.data.toList.take (k + 1), hexV b < B := by
  intro b hb
  rw [take_snoc s.data.toList k h] at hb
  rcases List.mem_append.1 hb with h1 | h1
  · exact ha b h1
  · rw [List.mem_singleton.1 h1]
    exact hd
set_option maxRecDepth 100000 in
theorem index_strB (s : ByteArray) (p : Nat) (h : p < s.size) (w : World) : (Instr.index 9 (.string s) (.int .i64 (p : Int))).run Tryd.prog w = .ok (.int .u8 ((s[p]'h).toNat : Int)) w := by
  rw [run_index_string _ _ _ _ _ Tryd.underlying9, dif_pos (by omega)]
  simp
set_option maxRecDepth 100000 in
theorem quiet_ownB {P : Program} {f : FuncId} {args : Array Value} {w : World} {n : Nat} {v : Value} (h : Calls P f args (w.drewN n) fun e w' => e = .returned v ∧ w.drewN n = w') :
    Calls P f args (w.drewN n) fun e w'' => e = .returned v ∧ ∃ m, w'' = w.drewN m := h.mono fun _ _ ⟨he, hm⟩ => ⟨he, n, hm.symm⟩
def ValOut (B : Nat) (l : List UInt8) (w : World) (e : Ending) (w' : World) : Prop := e = .returned (.int .i64 (vB B l)) ∧ Below w.heap.size w w'
set_option maxRecDepth 100000 in
theorem valOut_of {B : Nat} {l : List UInt8} {n : Int} {w w' : World} (h : vB B l = n) (hb : Below w.heap.size w w') : ValOut B l w (.returned (.int .i64 n)) w' := by
  subst h
  exact ⟨rfl, hb⟩

set_option maxRecDepth 100000 in
set_option maxHeartbeats 400000 in
theorem specValue_len (B : Nat) (s : ByteArray) (w : World) (hs : s.size ≤ 1048576) (h : ¬ (1 ≤ s.size ∧ s.size ≤ 4)) : Calls Tryd.prog 36 #[.string s, .int .i64 (B : Int)] w (ValOut B s.data.toList w) := by
  have hok := Lib.hid (vB_len B s.data.toList h)
  by_cases h1 : (s.size : Int) < 1
  · clear h
    go_enter Tryd.func36, Tryd.ntmps36
    go_wp2
    go_ret
    exact valOut_of hok.out (Below.refl _ _)
  · have h2 : (4 : Int) < (s.size : Int) := by omega
    clear h
    go_enter Tryd.func36, Tryd.ntmps36
    go_wp2
    go_ret
    exact valOut_of hok.out (Below.refl _ _)

set_option maxRecDepth 100000 in
set_option maxHeartbeats 2000000 in
theorem specValue_go (B : Nat) (s : ByteArray) (w : World) (hB : B ≤ 16) (hB1 : 1 ≤ B) (h1 : 1 ≤ s.size) (h4 : s.size ≤ 4) : Calls Tryd.prog 36 #[.string s, .int .i64 (B : Int)] w (ValOut B s.data.toList w) := by
  have g1 : ¬ (s.size : Int) < 1 := by omega
  have g2 : ¬ (4 : Int) < (s.size : Int) := by omega
  go_enter Tryd.func36, Tryd.ntmps36
  go_wp2
  go_loopw [5, 6] (fun v q wr => ∃ i V : Nat, i ≤ s.size ∧ q = .int .i64 (i : Int) ∧ v = .int .i64 (V : Int) ∧ Hid (V = valB B (s.data.toList.take i)) ∧ Hid (∀ b ∈ s.data.toList.take i, hexV b < B) ∧ Hid (Below w.heap.size w wr)) (fun _ q _ => s.size - (intOf q).toNat)
  case atStart => exact ⟨0, 0, Nat.zero_le _, rfl, rfl, Lib.hid rfl, Lib.hid (by simp), Lib.hid (Below.refl _ _)⟩
  case round =>
    obtain ⟨i, V, hi, rfl, rfl, hV, hall, hb⟩ := hrel
    by_cases hlt : i < s.size
    · have hltI : (i : Int) < (s.size : Int) := by omega
      have hV4 : V < 4096 := by
        have h := valB_lt B hB _ hall.out
        have hl : (s.data.toList.take i).length ≤ 3 := Nat.le_trans (List.length_take_le _ _) (by omega)
        have := Nat.pow_le_pow_right (show 0 < 16 by omega) hl
        rw [hV.out]
        omega
      obtain ⟨a, ha⟩ : ∃ a : UInt8, a = s[i]'hlt := ⟨_, rfl⟩
      have hxa : ∀ w, (Instr.index 9 (.string s) (.int .i64 (i : Int))).run Tryd.prog w = .ok (.int .u8 (a.toNat : Int)) w := fun w => by rw [ha]; exact index_strB s i hlt w
      have Ha := Lib.hid ha
      clear ha
      go_wp2
      go_loopw [7, 8] (fun nq kq wr => ∃ k : Nat, k ≤ B ∧ kq = .int .i64 (k : Int) ∧ nq = .int .i64 (seen a k) ∧ Hid (Below w.heap.size w wr)) (fun _ kq _ => B - (intOf kq).toNat)
      case atStart => exact ⟨0, Nat.zero_le _, rfl, by rw [seen_zero], hb⟩
      case round =>
        obtain ⟨k, hk, rfl, rfl, hbi⟩ := hrel
        clear hb
        by_cases hkB : k < B
        · have hkI : (k : Int) < (B : Int) := by omega
          have hk16 : k < 16 := by omega
          by_cases e1 : a.toNat = (hexDig k).toNat
          · have e1' : ((a.toNat : Int) == ((hexDig k).toNat : Int)) = true := by simp; omega
            have E := Lib.hid (seen_hit a k hk16 e1)
            clear e1
            go_wp2
            go_quiet ((go_at_call 58; with_reducible exact quiet_ownB (specDigitN k _ hk16)))
            go_wp2
            go_roundw
            case rel => exact ⟨k + 1, by omega, by go_num, by rw [E.out], Lib.hid (below_drewN hbi.out _)⟩
            case measure => simp [intOf]; omega
          · have e1' : ((a.toNat : Int) == ((hexDig k).toNat : Int)) = false := by simp; omega
            have E := Lib.hid (seen_miss a k hk16 e1)
            clear e1
            go_wp2
            go_quiet ((go_at_call 58; with_reducible exact quiet_ownB (specDigitN k _ hk16)))
            go_wp2
            go_roundw
            case rel => exact ⟨k + 1, by omega, by go_num, by rw [E.out], Lib.hid (below_drewN hbi.out _)⟩
            case measure => simp [intOf]; omega
        · obtain rfl : k = B := by omega
          have hkI : ¬ (k : Int) < (k : Int) := by omega
          by_cases hv : hexV a < k
          · obtain ⟨D, hD⟩ : ∃ D, D = hexV a := ⟨_, rfl⟩
            have es : seen a k = (D : Int) := by rw [seen, if_pos (by omega), hD]
            rw [es]
            have hD16 : D < 16 := by omega
            have hm := Nat.mul_le_mul hB (show V ≤ 4096 by omega)
            have eM : (k : Int) * (V : Int) = ((k * V : Nat) : Int) := by simp
            obtain ⟨M, hM⟩ : ∃ M, M = k * V := ⟨_, rfl⟩
            rw [← hM] at hm eM
            have R1 := Lib.hid (show M + D = valB k (s.data.toList.take (i + 1)) by rw [valB_takeS k s i hlt, ← hV.out, hM, hD, Ha.out])
            have R2 := Lib.hid (take_allB k s i hlt hall.out (by rw [← Ha.out]; exact hv))
            clear es hM hD hv
            go_wp2
            go_roundw
            case rel => exact ⟨i + 1, M + D, by omega, by go_num, by go_num, R1, R2, hbi⟩
            case measure => simp [intOf]; omega
          · have es : seen a k = -1 := by rw [seen, if_neg (by omega)]
            rw [es]
            have hok := Lib.hid (vB_bad k s i hlt (by rw [← Ha.out]; exact hv))
            clear es hv
            go_wp2
            go_ret
            exact valOut_of hok.out hbi.out
    · obtain rfl : i = s.size := by omega
      have hltI : ¬ (s.size : Int) < (s.size : Int) := by omega
      have et : s.data.toList.take s.size = s.data.toList := List.take_of_length_le (by simp)
      have hok := Lib.hid (show vB B s.data.toList = (V : Int) by
        rw [hV.out, et]
        exact vB_yes B _ h1 h4 (by have := hall.out; rwa [et] at this))
      clear et
      go_wp2
      go_ret
      exact valOut_of hok.out hb.out

set_option maxRecDepth 100000 in
theorem specValue (B : Nat) (s : ByteArray) (w : World) (hs : s.size ≤ 1048576) (hB : B ≤ 16) (hB1 : 1 ≤ B) : Calls Tryd.prog 36 #[.string s, .int .i64 (B : Int)] w (ValOut B s.data.toList w) := by
  by_cases h : 1 ≤ s.size ∧ s.size ≤ 4
  · exact specValue_go B s w hB hB1 h.1 h.2
  · exact specValue_len B s w hs h
end Go.Proofs.YtckakpcjbndijabDoor
namespace Go.Proofs.YtckakpcjbndijabDoor
open Go.RowKit

set_option maxRecDepth 100000 in
theorem hexV_dig10 (b : UInt8) (h : isDig b = true) : hexV b = b.toNat - 48 ∧ hexV b < 10 := by
  simp only [isDig, decide_eq_true_eq] at h
  have e : hexV b = b.toNat - 48 := by rw [hexV, if_pos (by omega)]
  exact ⟨e, by omega⟩
set_option maxRecDepth 100000 in
theorem valB_ten (l : List UInt8) (h : l.all isDig = true) : valB 10 l = val l := by
  obtain ⟨n, hn⟩ : ∃ n, l.length = n := ⟨_, rfl⟩
  induction n generalizing l with
  | zero =>
    obtain rfl : l = [] := List.eq_nil_of_length_eq_zero hn
    rfl
  | succ n ih =>
    obtain ⟨i, b, rfl⟩ : ∃ i b, l = i ++ [b] := by
      rcases List.eq_nil_or_concat l with h | ⟨i, b, h⟩
      · rw [h] at hn; cases hn
      · exact ⟨i, b, by rw [h, List.concat_eq_append]⟩
    rw [List.all_append, Bool.and_eq_true] at h
    rw [valB_snoc, val_snoc, ih i h.1 (by simp at hn; omega), (hexV_dig10 b (by simpa using h.2)).1]
set_option maxRecDepth 100000 in
theorem vB_num (b : UInt8) : vB 10 (numB b) = (b.toNat : Int) := by
  obtain ⟨h1, h2, h3, _⟩ := numB_facts b
  have hl := numB_len b
  rw [vB_yes 10 _ h3 (by omega) (fun c hc => (hexV_dig10 c (List.all_eq_true.1 h1 c hc)).2), valB_ten _ h1, h2]
set_option maxRecDepth 100000 in
theorem vB_hex (n : Nat) (h : n < 65536) : vB 16 (hexN n) = (n : Int) := by
  obtain ⟨h1, h2⟩ := okG_hex n h
  simp only [okG, Bool.and_eq_true, decide_eq_true_eq, List.all_eq_true] at h1
  rw [vB_yes 16 _ h1.1.1.1 h1.1.1.2 h1.1.2]
  exact congrArg Int.ofNat h2

set_option maxRecDepth 100000 in
/-- What is read is of one of two forms. -/
theorem rdA_cases {s : List UInt8} {x : Ad} (h : rdA s = some x) :
    (∃ bs, bs.length = 4 ∧ text4 bs = s ∧ x = ofA bs ∧ splitC 46 s = bs.map numB ∧ (splitC 58 s).length = 1) ∨ (∃ bs, bs.length = 16 ∧ text6 bs = s ∧ x = ofA bs ∧ splitC 58 s = (wordsL bs).map hexW ∧ (splitC 46 s).length = 1) := by
  unfold rdA at h
  split at h
  · obtain ⟨bs, h1, rfl⟩ := Option.map_eq_some_iff.1 h
    obtain ⟨hl, rfl⟩ := (rd6_iff s bs).1 h1
    refine .inr ⟨bs, hl, rfl, rfl, text6_split bs (fun e => ?_), by rw [split_one 46 _ (text6_no bs)]; rfl⟩
    have := wordsL_length bs
    rw [e, hl] at this
    cases this
  · obtain ⟨bs, h1, rfl⟩ := Option.map_eq_some_iff.1 h
    obtain ⟨hl, rfl⟩ := (rd4_iff s bs).1 h1
    exact .inl ⟨bs, hl, rfl, rfl, text4_split bs (fun e => by rw [e] at hl; cases hl), by rw [split_one 58 _ (text4_no bs)]; rfl⟩
set_option maxRecDepth 100000 in
theorem none_of {s : List UInt8} (h : ∀ x, rdA s = some x → False) : rdA s = none := by
  cases e : rdA s with
  | none => rfl
  | some x => exact (h x e).elim
set_option maxRecDepth 100000 in
theorem text4_len (bs : List UInt8) (h : bs.length = 4) : (text4 bs).length ≤ 39 := by
  have := joinC_len1 46 3 (bs.map numB) (fun e => by have := congrArg List.length e; simp [h] at this) (fun p hp => by
    obtain ⟨b, _, rfl⟩ := List.mem_map.1 hp
    exact numB_len b)
  rw [List.length_map, h] at this
  unfold text4
  omega
set_option maxRecDepth 100000 in
theorem text6_len (bs : List UInt8) (h : bs.length = 16) : (text6 bs).length ≤ 39 := by
  have hw : (wordsL bs).length = 8 := by rw [wordsL_length, h]
  have := joinC_len1 58 4 ((wordsL bs).map hexW) (fun e => by have := congrArg List.length e; simp [hw] at this) (fun p hp => by
    obtain ⟨n, hn, rfl⟩ := List.mem_map.1 hp
    obtain ⟨j, hj⟩ := List.getElem?_of_mem hn
    exact hexW_len n (wordsL_le bs j n hj).2)
  rw [List.length_map, hw] at this
  unfold text6
  omega
set_option maxRecDepth 100000 in
theorem read_long {s : List UInt8} (h : 39 < s.length) : rdA s = none := none_of fun x e => by
  rcases rdA_cases e with ⟨bs, hl, rfl, _⟩ | ⟨bs, hl, rfl, _⟩
  · have := text4_len bs hl
    omega
  · have := text6_len bs hl
    omega
set_option maxRecDepth 100000 in
theorem read_bad4 {s p : List UInt8} {i : Nat} (h4 : (splitC 46 s).length = 4) (hp : (splitC 46 s)[i]? = some p) (h : vB 10 p < 0 ∨ 255 < vB 10 p) : rdA s = none := none_of fun x e => by
  rcases rdA_cases e with ⟨bs, _, _, _, he, _⟩ | ⟨_, _, _, _, _, he⟩
  · rw [he, List.getElem?_map, Option.map_eq_some_iff] at hp
    obtain ⟨b, _, rfl⟩ := hp
    rw [vB_num] at h
    have := UInt8.toNat_lt b
    omega
  · omega
set_option maxRecDepth 100000 in
theorem read_bad6 {s p : List UInt8} {i : Nat} (h8 : (splitC 58 s).length = 8) (hp : (splitC 58 s)[i]? = some p) (h : vB 16 p < 0) : rdA s = none := none_of fun x e => by
  rcases rdA_cases e with ⟨_, _, _, _, _, he⟩ | ⟨bs, _, _, _, he, _⟩
  · omega
  · rw [he, List.getElem?_map, Option.map_eq_some_iff] at hp
    obtain ⟨n, hn, rfl⟩ := hp
    have e2 : vB 16 (hexW n) = _ := vB_hex n.toNat (words_nat bs n (List.mem_of_getElem? hn))
    rw [e2] at h
    omega
set_option maxRecDepth 100000 in
theorem read_none {s : List UInt8} (h4 : ¬ (splitC 46 s).length = 4) (h8 : ¬ (splitC 58 s).length = 8) : rdA s = none := none_of fun x e => by
  rcases rdA_cases e with ⟨bs, hl, _, _, he, _⟩ | ⟨bs, hl, _, _, he, _⟩
  · exact h4 (by rw [he, List.length_map, hl])
  · exact h8 (by rw [he, List.length_map, wordsL_length, hl])
def byteV (p : List UInt8) : UInt8 := UInt8.ofNat (vB 10 p).toNat
def natV (p : List UInt8) : Nat := (vB 16 p).toNat
set_option maxRecDepth 100000 in
theorem byteV_num (b : UInt8) : byteV (numB b) = b := by
  rw [byteV, vB_num]
  simp
set_option maxRecDepth 100000 in
theorem natV_hex (bs : List UInt8) (n : Int) (h : n ∈ wordsL bs) : natV (hexW n) = n.toNat := by
  have e2 : vB 16 (hexW n) = _ := vB_hex n.toNat (words_nat bs n h)
  rw [natV, e2, Int.toNat_natCast]
set_option maxRecDepth 100000 in
theorem read_end4 {s : List UInt8} (h4 : (splitC 46 s).length = 4) : rdA s = if (ofA ((splitC 46 s).map byteV)).text = s then some (ofA ((splitC 46 s).map byteV)) else none := by
  split
  · rename_i ht
    exact (rdA_iff s _).2 ⟨(of4_text _ (by rw [List.length_map, h4])).1, ht⟩
  · rename_i ht
    refine none_of fun x e => ht ?_
    rcases rdA_cases e with ⟨bs, hl, h1, _, he, _⟩ | ⟨_, _, _, _, _, he⟩
    · have e2 : (splitC 46 s).map byteV = bs := by
        rw [he, List.map_map]
        conv => rhs; rw [← List.map_id bs]
        exact List.map_congr_left (fun b _ => byteV_num b)
      rw [e2, (of4_text bs hl).2.1, h1]
    · omega
set_option maxRecDepth 100000 in
theorem read_end6 {s : List UInt8} (h8 : (splitC 58 s).length = 8) : rdA s = if (ofA (((splitC 58 s).map natV).flatMap put16N)).text = s then some (ofA (((splitC 58 s).map natV).flatMap put16N)) else none := by
  split
  · rename_i ht
    exact (rdA_iff s _).2 ⟨(of6_text _ (by rw [put16_len, List.length_map, h8])).1, ht⟩
  · rename_i ht
    refine none_of fun x e => ht ?_
    rcases rdA_cases e with ⟨_, _, _, _, _, he⟩ | ⟨bs, hl, h1, _, he, _⟩
    · omega
    · have e2 : ((splitC 58 s).map natV).flatMap put16N = bs := by
        rw [he, List.map_map]
        conv => rhs; rw [← words_put16 bs (by omega)]
        congr 1
        exact List.map_congr_left (fun n hn => natV_hex bs n hn)
      rw [e2, (of6_text bs hl).2.1, h1]
set_option maxRecDepth 100000 in
theorem vB_no58 {p : List UInt8} (h : 0 ≤ vB 10 p) : (58 : UInt8) ∉ p := fun hm => by
  unfold vB at h
  split at h
  · rename_i hc
    have := List.all_eq_true.1 hc.2.2 58 hm
    simp [hexV] at this
  · omega
set_option maxRecDepth 100000 in
theorem read_four_one {s : List UInt8} (h : ∀ p ∈ splitC 46 s, 0 ≤ vB 10 p) : (splitC 58 s).length = 1 := by
  have hn : (58 : UInt8) ∉ joinC 46 (splitC 46 s) := join_not_mem 46 58 (by decide) _ (fun p hp => vB_no58 (h p hp))
  rw [join_split] at hn
  rw [split_one 58 s hn]
  rfl
end Go.Proofs.YtckakpcjbndijabDoor
namespace Go.Proofs
open Go.Shelf
def Tryd.lays144_ren : Go.Shelf.Ren := ⟨fun | 144 => 39 | 143 => 66 | 219 => 89 | 217 => 104 | 225 => 105 | 224 => 106 | 267 => 107 | 266 => 112 | 314 => 113 | n => n, fun | 9 => 9 | 4 => 4 | 3 => 3 | 5 => 5 | 46 => 85 | 146 => 122 | 51 => 116 | n => n, fun | 1 => 1 | n => n⟩
theorem Tryd.lays144 : Go.Proofs.Lays.n144 Tryd.prog Tryd.lays144_ren := {
  mixed := by kernel_rfl
  f143 := Tryd.func66.trans (congrArg some (by kernel_rfl))
  f144 := Tryd.func39.trans (congrArg some (by kernel_rfl))
  f217 := Tryd.func104.trans (congrArg some (by kernel_rfl))
  f219 := Tryd.func89.trans (congrArg some (by kernel_rfl))
  f224 := Tryd.func106.trans (congrArg some (by kernel_rfl))
  f225 := Tryd.func105.trans (congrArg some (by kernel_rfl))
  f266 := Tryd.func112.trans (congrArg some (by kernel_rfl))
  f267 := Tryd.func107.trans (congrArg some (by kernel_rfl))
  f314 := Tryd.func113.trans (congrArg some (by kernel_rfl))
  t3 := Tryd.underlying3
  a3 := Tryd.isAgg3
  z3 := Tryd.sizeOf3
  v3 := Tryd.zeroValue3
  t4 := Tryd.underlying4
  a4 := Tryd.isAgg4
  z4 := Tryd.sizeOf4
  v4 := Tryd.zeroValue4
  t5 := Tryd.underlying5
  a5 := Tryd.isAgg5
  z5 := Tryd.sizeOf5
  v5 := Tryd.zeroValue5
  t9 := Tryd.underlying9
  a9 := Tryd.isAgg9
  z9 := Tryd.sizeOf9
  v9 := Tryd.zeroValue9
  t46 := Tryd.underlying85
  a46 := Tryd.isAgg85
  z46 := Tryd.sizeOf85
  v46 := Tryd.zeroValue85
  t51 := Tryd.underlying116
  a51 := Tryd.isAgg116
  z51 := Tryd.sizeOf116
  v51 := Tryd.zeroValue116
  t146 := Tryd.underlying122
  a146 := Tryd.isAgg122
  z146 := Tryd.sizeOf122
  v146 := Tryd.zeroValue122
  g1 := by kernel_rfl }
open Go.RowKit Go.Lib in
theorem Tryd.strings_Contains_one (s : ByteArray) (c : UInt8) (w : World) :
    Calls Tryd.prog 39 #[.string s, .string ⟨#[c]⟩] w fun e w' => e = .returned (.bool (decide (0 ≤ Lib.indexByte s.data.toList c))) ∧ w' = w := Any.strings_Contains_one Tryd.lays144 s c w
def Tryd.lays145_ren : Go.Shelf.Ren := ⟨fun | 145 => 45 | 220 => 72 | 219 => 89 | 217 => 104 | 225 => 105 | 224 => 106 | 267 => 107 | 266 => 112 | 314 => 113 | n => n, fun | 9 => 9 | 4 => 4 | 59 => 62 | 3 => 3 | 5 => 5 | 46 => 85 | 146 => 122 | 51 => 116 | n => n, fun | 1 => 1 | n => n⟩
theorem Tryd.lays145 : Go.Proofs.Lays.n145 Tryd.prog Tryd.lays145_ren := {
  mixed := by kernel_rfl
  f145 := Tryd.func45.trans (congrArg some (by kernel_rfl))
  f217 := Tryd.func104.trans (congrArg some (by kernel_rfl))
  f219 := Tryd.func89.trans (congrArg some (by kernel_rfl))
  f220 := Tryd.func72.trans (congrArg some (by kernel_rfl))
  f224 := Tryd.func106.trans (congrArg some (by kernel_rfl))
  f225 := Tryd.func105.trans (congrArg some (by kernel_rfl))
  f266 := Tryd.func112.trans (congrArg some (by kernel_rfl))
  f267 := Tryd.func107.trans (congrArg some (by kernel_rfl))
  f314 := Tryd.func113.trans (congrArg some (by kernel_rfl))
  t3 := Tryd.underlying3
  a3 := Tryd.isAgg3
  z3 := Tryd.sizeOf3
  v3 := Tryd.zeroValue3
  t4 := Tryd.underlying4
  a4 := Tryd.isAgg4
  z4 := Tryd.sizeOf4
  v4 := Tryd.zeroValue4
  t5 := Tryd.underlying5
  a5 := Tryd.isAgg5
  z5 := Tryd.sizeOf5
  v5 := Tryd.zeroValue5
  t9 := Tryd.underlying9
  a9 := Tryd.isAgg9
  z9 := Tryd.sizeOf9
  v9 := Tryd.zeroValue9
  t46 := Tryd.underlying85
  a46 := Tryd.isAgg85
  z46 := Tryd.sizeOf85
  v46 := Tryd.zeroValue85
  t51 := Tryd.underlying116
  a51 := Tryd.isAgg116
  z51 := Tryd.sizeOf116
  v51 := Tryd.zeroValue116
  t59 := Tryd.underlying62
  a59 := Tryd.isAgg62
  z59 := Tryd.sizeOf62
  v59 := Tryd.zeroValue62
  t146 := Tryd.underlying122
  a146 := Tryd.isAgg122
  z146 := Tryd.sizeOf122
  v146 := Tryd.zeroValue122
  g1 := by kernel_rfl }
open Go.RowKit Go.Lib in
theorem Tryd.strings_Cut (s sep : ByteArray) (m : Int) (w : World) (hs : s.size < 4294967281) (hm : w.cell? ⟨1, 0, none⟩ = some (.int .i64 m)) :
    Calls Tryd.prog 45 #[.string s, .string sep] w fun e w' => e = .returned (.tuple #[.string ⟨(Lib.cut s.data.toList sep.data.toList).1.toArray⟩, .string ⟨(Lib.cut s.data.toList sep.data.toList).2.1.toArray⟩, .bool (Lib.cut s.data.toList sep.data.toList).2.2]) ∧ ∃ n, w' = w.drewN n := Any.strings_Cut Tryd.lays145 s sep m w hs hm
def Tryd.lays146_ren : Go.Shelf.Ren := ⟨fun | 146 => 67 | 221 => 90 | 268 => 108 | 138 => 109 | 143 => 66 | 195 => 114 | 197 => 115 | 218 => 116 | 219 => 89 | 260 => 117 | 217 => 104 | 225 => 105 | 224 => 106 | 267 => 107 | 266 => 112 | 314 => 113 | n => n, fun | 9 => 9 | 31 => 51 | 3 => 3 | 4 => 4 | 0 => 0 | 105 => 125 | 21 => 21 | 5 => 5 | 46 => 85 | 119 => 129 | 139 => 132 | 138 => 131 | 146 => 122 | 51 => 116 | n => n, fun | 1 => 1 | 3 => 4 | 4 => 5 | n => n⟩
theorem Tryd.lays146 : Go.Proofs.Lays.n146 Tryd.prog Tryd.lays146_ren := {
  mixed := by kernel_rfl
  f138 := Tryd.func109.trans (congrArg some (by kernel_rfl))
  f143 := Tryd.func66.trans (congrArg some (by kernel_rfl))
  f146 := Tryd.func67.trans (congrArg some (by kernel_rfl))
  f195 := Tryd.func114.trans (congrArg some (by kernel_rfl))
  f197 := Tryd.func115.trans (congrArg some (by kernel_rfl))
  f217 := Tryd.func104.trans (congrArg some (by kernel_rfl))
  f218 := Tryd.func116.trans (congrArg some (by kernel_rfl))
  f219 := Tryd.func89.trans (congrArg some (by kernel_rfl))
  f221 := Tryd.func90.trans (congrArg some (by kernel_rfl))
  f224 := Tryd.func106.trans (congrArg some (by kernel_rfl))
  f225 := Tryd.func105.trans (congrArg some (by kernel_rfl))
  f260 := Tryd.func117.trans (congrArg some (by kernel_rfl))
  f266 := Tryd.func112.trans (congrArg some (by kernel_rfl))
  f267 := Tryd.func107.trans (congrArg some (by kernel_rfl))
  f268 := Tryd.func108.trans (congrArg some (by kernel_rfl))
  f314 := Tryd.func113.trans (congrArg some (by kernel_rfl))
  t0 := Tryd.underlying0
  a0 := Tryd.isAgg0
  z0 := Tryd.sizeOf0
  v0 := Tryd.zeroValue0
  t3 := Tryd.underlying3
  a3 := Tryd.isAgg3
  z3 := Tryd.sizeOf3
  v3 := Tryd.zeroValue3
  t4 := Tryd.underlying4
  a4 := Tryd.isAgg4
  z4 := Tryd.sizeOf4
  v4 := Tryd.zeroValue4
  t5 := Tryd.underlying5
  a5 := Tryd.isAgg5
  z5 := Tryd.sizeOf5
  v5 := Tryd.zeroValue5
  t9 := Tryd.underlying9
  a9 := Tryd.isAgg9
  z9 := Tryd.sizeOf9
  v9 := Tryd.zeroValue9
  t21 := Tryd.underlying21
  a21 := Tryd.isAgg21
  z21 := Tryd.sizeOf21
  v21 := Tryd.zeroValue21
  t31 := Tryd.underlying51
  a31 := Tryd.isAgg51
  z31 := Tryd.sizeOf51
  v31 := Tryd.zeroValue51
  t46 := Tryd.underlying85
  a46 := Tryd.isAgg85
  z46 := Tryd.sizeOf85
  v46 := Tryd.zeroValue85
  t51 := Tryd.underlying116
  a51 := Tryd.isAgg116
  z51 := Tryd.sizeOf116
  v51 := Tryd.zeroValue116
  t105 := Tryd.underlying125
  a105 := Tryd.isAgg125
  z105 := Tryd.sizeOf125
  v105 := Tryd.zeroValue125
  t119 := Tryd.underlying129
  a119 := Tryd.isAgg129
  z119 := Tryd.sizeOf129
  t138 := Tryd.underlying131
  a138 := Tryd.isAgg131
  z138 := Tryd.sizeOf131
  v138 := Tryd.zeroValue131
  t139 := Tryd.underlying132
  a139 := Tryd.isAgg132
  z139 := Tryd.sizeOf132
  v139 := Tryd.zeroValue132
  t146 := Tryd.underlying122
  a146 := Tryd.isAgg122
  z146 := Tryd.sizeOf122
  v146 := Tryd.zeroValue122
  g1 := by kernel_rfl
  g3 := by kernel_rfl
  g4 := by kernel_rfl }
open Go.RowKit Go.Lib in
theorem Tryd.strings_Split (s sep : ByteArray) (m : Int) (w : World) (hs : s.size < 4294967281) (hm : w.cell? ⟨1, 0, none⟩ = some (.int .i64 m)) (h1 : 1 ≤ sep.size) :
    Calls Tryd.prog 67 #[.string s, .string sep] w fun e w' =>
      e = .returned (.slice (some ⟨w.heap.size, 0, none⟩) (Lib.countB s sep + 1) (Lib.countB s sep + 1)) ∧ w' = w.alloc (.cells ((Lib.splitB sep 0 (Lib.countB s sep) s).map Value.string).toArray 9) := Any.strings_Split Tryd.lays146 (by kernel_rfl) s sep m w hs hm h1
end Go.Proofs
namespace Go.Proofs.YtckakpcjbndijabDoor
open Go.RowKit

set_option maxRecDepth 100000 in
theorem strOf_append (a b : List UInt8) : strOf (a ++ b) = strOf a ++ strOf b := by
  apply ByteArray.ext
  simp [strOf]

set_option maxRecDepth 100000 in
set_option maxHeartbeats 400000 in
theorem specHexN (n : Nat) : n < 65536 → ∀ w : World, Calls Tryd.prog 30 #[.int .i64 (n : Int)] w fun e w' => e = .returned (.string (strOf (hexN n))) ∧ Below w.heap.size w w' := by
  induction n using Nat.strongRecOn with
  | ind n ih =>
    intro hn w
    by_cases h : n < 16
    · have hI : (n : Int) < 16 := by omega
      have hcv := conv_b (w.alloc (.cells #[.int .u8 ((hexDig n).toNat : Int)] 5)) _ (some ⟨w.heap.size, 0, none⟩) 1 1 [hexDig n] rfl (RB.new w 5 [hexDig n])
      have E := Lib.hid (hexN_small n h)
      clear ih
      go_enter Tryd.func30, Tryd.ntmps30
      go_wp2_with (go_at_call 58; refine (specDigitN n _ h).mono ?_; rintro e w' ⟨rfl, rfl⟩)
      go_ret
      rw [E.out]
      exact ⟨rfl, by go_grown⟩
    · have hI : ¬ (n : Int) < 16 := by omega
      have IH := Lib.hid (ih (n / 16) (by omega) (by omega))
      obtain ⟨q, hq⟩ : ∃ q : Nat, q = n / 16 := ⟨_, rfl⟩
      obtain ⟨r, hr⟩ : ∃ r : Nat, r = n % 16 := ⟨_, rfl⟩
      have hqI : (n : Int) / 16 = (q : Int) := by omega
      have hrI : (n : Int) % 16 = (r : Int) := by omega
      have hr16 : r < 16 := by omega
      have E := Lib.hid (show hexN n = hexN q ++ [hexDig r] by rw [hexN_big n h, hq, hr])
      have hsz : ¬ 9223372036854775807 < (strOf (hexN q)).size + (strOf [hexDig r]).size := by
        have := hexN_len 3 q (by omega)
        rw [strOf_size, strOf_size]
        simp
        omega
      rw [← hq] at IH
      clear ih h hq hr
      go_enter Tryd.func30, Tryd.ntmps30
      go_wp2_with fail
      refine (IH.out _).mono ?_
      rintro e w1 ⟨rfl, b1⟩
      have hcv := conv_b (w1.alloc (.cells #[.int .u8 ((hexDig r).toNat : Int)] 5)) _ (some ⟨w1.heap.size, 0, none⟩) 1 1 [hexDig r] rfl (RB.new w1 5 [hexDig r])
      go_wp2_with (go_at_call 58; refine (specDigitN r _ hr16).mono ?_; rintro e w' ⟨rfl, rfl⟩)
      go_ret
      rw [E.out, strOf_append]
      exact ⟨rfl, bthen b1 (Joins.below_alloc1 w1 _)⟩

set_option maxRecDepth 100000 in
theorem pre4 (bs : List UInt8) (i : Nat) (h : i < bs.length) : joinC 46 ((bs.take (i + 1)).map numB) = if i = 0 then numB bs[i] else joinC 46 ((bs.take i).map numB) ++ 46 :: numB bs[i] := by
  rw [take_snoc bs i h, List.map_append, List.map_singleton]
  split
  · rename_i h0
    subst h0
    rw [List.take_zero, List.map_nil, List.nil_append, joinC_one]
  · rename_i h0
    rw [joinC_snoc]
    intro e
    have := congrArg List.length e
    rw [List.length_map, List.length_take, List.length_nil] at this
    omega
set_option maxRecDepth 100000 in
theorem pre6 (ws : List Int) (i : Nat) (h : i < ws.length) : joinC 58 ((ws.take (i + 1)).map hexW) = if i = 0 then hexW ws[i] else joinC 58 ((ws.take i).map hexW) ++ 58 :: hexW ws[i] := by
  rw [take_snoc ws i h, List.map_append, List.map_singleton]
  split
  · rename_i h0
    subst h0
    rw [List.take_zero, List.map_nil, List.nil_append, joinC_one]
  · rename_i h0
    rw [joinC_snoc]
    intro e
    have := congrArg List.length e
    rw [List.length_map, List.length_take, List.length_nil] at this
    omega
set_option maxRecDepth 100000 in
theorem len4t (bs : List UInt8) (i : Nat) (h : bs.length ≤ 16) : (joinC 46 ((bs.take i).map numB)).length ≤ 64 := by
  have h1 := joinC_len 46 3 ((bs.take i).map numB) (fun x hx => by
    obtain ⟨b, _, rfl⟩ := List.mem_map.1 hx
    exact numB_len b)
  simp only [List.length_map, List.length_take] at h1
  omega
set_option maxRecDepth 100000 in
theorem len6t (ws : List Int) (i : Nat) (h : ws.length ≤ 8) (hw : ∀ n ∈ ws, n ≤ 65535) : (joinC 58 ((ws.take i).map hexW)).length ≤ 40 := by
  have h1 := joinC_len 58 4 ((ws.take i).map hexW) (fun x hx => by
    obtain ⟨n, hn, rfl⟩ := List.mem_map.1 hx
    exact hexW_len n (hw n (List.mem_of_mem_take hn)))
  simp only [List.length_map, List.length_take] at h1
  omega

def TextOut (x : Ad) (w : World) (e : Ending) (w' : World) : Prop := e = .returned (.string (strOf x.text)) ∧ Below w.heap.size w w'
set_option maxRecDepth 100000 in
theorem text_no {x : Ad} (h : x.ok = false) : x.text = [] := by simp [Ad.text, h]
set_option maxRecDepth 100000 in
theorem text_four {x : Ad} (h : x.ok = true) (hk : x.k = 4) : x.text = text4 (put32 x.d) := by simp [Ad.text, h, hk]
set_option maxRecDepth 100000 in
theorem text_six {x : Ad} (h : x.ok = true) (hk : x.k = 6) : x.text = text6 x.whole := by simp [Ad.text, h, hk]

set_option maxRecDepth 100000 in
set_option maxHeartbeats 400000 in
theorem specText_no (x : Ad) (h : x.ok = false) (w : World) : Calls Tryd.prog 9 #[.agg #[.int .i64 x.k, .int .i64 x.a, .int .i64 x.b, .int .i64 x.c, .int .i64 x.d]] w (TextOut x w) := by
  have so : ∀ v : World, Calls Tryd.prog 28 #[.agg #[.int .i64 x.k, .int .i64 x.a, .int .i64 x.b, .int .i64 x.c, .int .i64 x.d]] v fun e v' => ∃ A c, e = .returned (.slice A 0 c) ∧ v'.ownsRow v.heap.size 5 1 (.slice A 0 c) 0 (cellsOf []) ∧ Below v.heap.size v v' := by
    intro v
    have hh := specAddrBytes x v
    unfold BytesOut at hh
    rwa [show x.bytes = [] by simp [Ad.bytes, h]] at hh
  have SO := Lib.hid so
  have E := Lib.hid (text_no h)
  clear so h
  go_enter Tryd.func9, Tryd.ntmps9
  go_wp2_with fail
  refine (SO.out _).mono ?_
  rintro e w1 ⟨A, k1, rfl, o1, b1⟩
  go_wp2
  go_ret
  unfold TextOut
  rw [E.out]
  exact ⟨rfl, bthen (Joins.below_alloc1 w _) b1⟩

set_option maxRecDepth 100000 in
set_option maxHeartbeats 1000000 in
theorem specText_four (x : Ad) (h : x.ok = true) (hk : x.k = 4) (w : World) : Calls Tryd.prog 9 #[.agg #[.int .i64 x.k, .int .i64 x.a, .int .i64 x.b, .int .i64 x.c, .int .i64 x.d]] w (TextOut x w) := by
  obtain ⟨bs, hbs⟩ : ∃ bs, bs = put32 x.d := ⟨_, rfl⟩
  have hl : bs.length = 4 := by rw [hbs]; rfl
  have so : ∀ v : World, Calls Tryd.prog 28 #[.agg #[.int .i64 x.k, .int .i64 x.a, .int .i64 x.b, .int .i64 x.c, .int .i64 x.d]] v fun e v' => ∃ A c, e = .returned (.slice A 4 c) ∧ v'.ownsRow v.heap.size 5 1 (.slice A 4 c) 4 (cellsOf bs) ∧ Below v.heap.size v v' := by
    intro v
    have hh := specAddrBytes x v
    unfold BytesOut at hh
    rwa [bytes_four h hk, ← hbs, hl] at hh
  have SO := Lib.hid so
  have E := Lib.hid (show x.text = text4 bs by rw [text_four h hk, hbs])
  have HL := Lib.hid hl
  clear so h hk hbs hl
  go_enter Tryd.func9, Tryd.ntmps9
  go_wp2_with fail
  refine (SO.out _).mono ?_
  rintro e w1 ⟨A, k1, rfl, o1, b1⟩
  have O1 := Lib.hid o1
  have B1 := Lib.hid (bthen (Joins.below_alloc1 w _) b1)
  clear o1 b1
  go_wp2_with fail
  go_loopw [4, 5] (fun s q wr => ∃ i : Nat, i ≤ 4 ∧ q = .int .i64 i ∧ s = .string (strOf (joinC 46 ((bs.take i).map numB))) ∧ Hid (wr.ownsRow (w.heap.size + 1) 5 1 (.slice A 4 k1) 4 (cellsOf bs)) ∧ Hid (Below w.heap.size w wr)) (fun _ q _ => 4 - (intOf q).toNat)
  case atStart => exact ⟨0, by omega, rfl, rfl, Lib.hid (by simpa using O1.out), B1⟩
  case round =>
    obtain ⟨i, hi, rfl, rfl, ho, hb⟩ := hrel
    by_cases hlt : i < 4
    · have hil : i < bs.length := by rw [HL.out]; exact hlt
      obtain ⟨g, rfl⟩ : ∃ g, A = some ⟨g, 0, none⟩ := by
        rcases ho.out.2 with ⟨_, h2⟩ | ⟨g, cap, cur, hv, _⟩
        · omega
        · injection hv with hA
          exact ⟨g, hA⟩
      obtain ⟨b, hb0⟩ : ∃ b : UInt8, b = bs[i] := ⟨_, rfl⟩
      have hc : wr.cell? ⟨g, i, none⟩ = some (.int .u8 (b.toNat : Int)) := by
        rw [ho.out.cellAt i (by omega), cellsOf_get bs i b (by rw [hb0]; exact List.getElem?_eq_getElem hil)]
      have hb256 := UInt8.toNat_lt b
      have E4 := Lib.hid (show joinC 46 ((bs.take (i + 1)).map numB) = if i = 0 then numB b else joinC 46 ((bs.take i).map numB) ++ 46 :: numB b by rw [pre4 bs i hil, hb0])
      obtain ⟨P, hP⟩ : ∃ P, P = joinC 46 ((bs.take i).map numB) := ⟨_, rfl⟩
      have hPl : P.length ≤ 64 := by rw [hP]; exact len4t bs i (by rw [HL.out]; omega)
      have hPz : i = 0 → P = [] := fun h0 => by rw [hP, h0]; rfl
      rw [← hP] at E4
      rw [← hP]
      obtain ⟨N, hN⟩ : ∃ N, N = numB b := ⟨_, rfl⟩
      have hNl : N.length ≤ 3 := by rw [hN]; exact numB_len b
      have nt := specNumText (b.toNat : Int)
      rw [show numText (b.toNat : Int) = N from hN.symm] at nt
      have NT := Lib.hid nt
      rw [← hN] at E4
      clear hP hb0 hN nt
      by_cases hi0 : i = 0
      · subst hi0
        rw [hPz rfl]
        rw [hPz rfl, if_pos rfl] at E4
        have hz1 : ¬ 9223372036854775807 < (strOf []).size + (strOf N).size := by rw [strOf_size, strOf_size]; simp; omega
        clear hPz
        go_wp2_with fail
        refine (NT.out _ (by omega)).mono ?_
        rintro e w2 ⟨rfl, b2⟩
        have R1 := Lib.hid (own_below ho.out b2)
        have R2 := Lib.hid (bthen hb.out b2)
        go_wp2
        go_roundw
        case rel => exact ⟨1, by omega, by go_num, by rw [E4.out, ← strOf_append]; rfl, R1, R2⟩
        case measure => simp [intOf]
      · have hi0I : (0 : Int) < (i : Int) := by omega
        rw [if_neg hi0] at E4
        have hz1 : ¬ 9223372036854775807 < (strOf P).size + 1 := by rw [strOf_size]; omega
        have hz2 : ¬ 9223372036854775807 < (strOf P).size + 1 + (strOf N).size := by rw [strOf_size, strOf_size]; omega
        clear hPz
        go_wp2_with fail
        refine (NT.out _ (by omega)).mono ?_
        rintro e w2 ⟨rfl, b2⟩
        have R1 := Lib.hid (own_below ho.out b2)
        have R2 := Lib.hid (bthen hb.out b2)
        go_wp2
        go_roundw
        case rel => exact ⟨i + 1, by omega, by go_num, by rw [E4.out, show P ++ 46 :: N = (P ++ [46]) ++ N by simp, strOf_append, strOf_append]; rfl, R1, R2⟩
        case measure => simp [intOf]; omega
    · obtain rfl : i = 4 := by omega
      have e4 : (bs.take 4).map numB = bs.map numB := by rw [List.take_of_length_le (by rw [HL.out]; exact Nat.le_refl _)]
      have EE := Lib.hid (show x.text = joinC 46 ((bs.take 4).map numB) by rw [E.out, e4]; rfl)
      clear e4
      go_wp2
      go_ret
      unfold TextOut
      rw [EE.out]
      exact ⟨rfl, hb.out⟩

set_option maxRecDepth 100000 in
set_option maxHeartbeats 1000000 in
theorem specText_six (x : Ad) (h : x.ok = true) (hk : x.k = 6) (w : World) : Calls Tryd.prog 9 #[.agg #[.int .i64 x.k, .int .i64 x.a, .int .i64 x.b, .int .i64 x.c, .int .i64 x.d]] w (TextOut x w) := by
  obtain ⟨bs, hbs⟩ : ∃ bs, bs = x.whole := ⟨_, rfl⟩
  have hl : bs.length = 16 := by rw [hbs, x.whole_length]
  have so : ∀ v : World, Calls Tryd.prog 28 #[.agg #[.int .i64 x.k, .int .i64 x.a, .int .i64 x.b, .int .i64 x.c, .int .i64 x.d]] v fun e v' => ∃ A c, e = .returned (.slice A 16 c) ∧ v'.ownsRow v.heap.size 5 1 (.slice A 16 c) 16 (cellsOf bs) ∧ Below v.heap.size v v' := by
    intro v
    have hh := specAddrBytes x v
    unfold BytesOut at hh
    rwa [bytes_six h hk, ← hbs, hl] at hh
  have SO := Lib.hid so
  have E := Lib.hid (show x.text = text6 bs by rw [text_six h hk, hbs])
  have HL := Lib.hid hl
  obtain ⟨ws, hws⟩ : ∃ ws, ws = wordsL bs := ⟨_, rfl⟩
  have hwl : ws.length = 8 := by rw [hws, wordsL_length, hl]
  have HWL := Lib.hid hwl
  have HWS := Lib.hid hws
  clear so h hk hbs hl hws hwl
  go_enter Tryd.func9, Tryd.ntmps9
  go_wp2_with fail
  refine (SO.out _).mono ?_
  rintro e w1 ⟨A, k1, rfl, o1, b1⟩
  have O1 := Lib.hid o1
  have B1 := Lib.hid (bthen (Joins.below_alloc1 w _) b1)
  clear o1 b1
  go_wp2_with fail
  go_loopw [4, 6] (fun s q wr => ∃ i : Nat, i ≤ 8 ∧ q = .int .i64 i ∧ s = .string (strOf (joinC 58 ((ws.take i).map hexW))) ∧ Hid (wr.ownsRow (w.heap.size + 1) 5 1 (.slice A 16 k1) 16 (cellsOf bs)) ∧ Hid (Below w.heap.size w wr)) (fun _ q _ => 8 - (intOf q).toNat)
  case atStart => exact ⟨0, by omega, rfl, rfl, Lib.hid (by simpa using O1.out), B1⟩
  case round =>
    obtain ⟨i, hi, rfl, rfl, ho, hb⟩ := hrel
    by_cases hlt : i < 8
    · have hil : 2 * i + 1 < bs.length := by rw [HL.out]; omega
      have hiw : i < ws.length := by rw [HWL.out]; exact hlt
      obtain ⟨g, rfl⟩ : ∃ g, A = some ⟨g, 0, none⟩ := by
        rcases ho.out.2 with ⟨_, h2⟩ | ⟨g, cap, cur, hv, _⟩
        · omega
        · injection hv with hA
          exact ⟨g, hA⟩
      obtain ⟨a, ha0⟩ : ∃ a : UInt8, a = bs[2 * i] := ⟨_, rfl⟩
      obtain ⟨b, hb0⟩ : ∃ b : UInt8, b = bs[2 * i + 1] := ⟨_, rfl⟩
      have hca : wr.cell? ⟨g, 2 * i, none⟩ = some (.int .u8 (a.toNat : Int)) := by
        rw [ho.out.cellAt (2 * i) (by omega), cellsOf_get bs (2 * i) a (by rw [ha0]; exact List.getElem?_eq_getElem (by omega))]
      have hcb : wr.cell? ⟨g, 2 * i + 1, none⟩ = some (.int .u8 (b.toNat : Int)) := by
        rw [ho.out.cellAt (2 * i + 1) (by omega), cellsOf_get bs (2 * i + 1) b (by rw [hb0]; exact List.getElem?_eq_getElem hil)]
      have ha256 := UInt8.toNat_lt a
      have hb256 := UInt8.toNat_lt b
      obtain ⟨n, hn⟩ : ∃ n : Nat, n = 256 * a.toNat + b.toNat := ⟨_, rfl⟩
      have hn16 : n < 65536 := by omega
      have hwi : ws[i] = (n : Int) := by
        have h1 := wordsL_pair bs i hil
        rw [← HWS.out, List.getElem?_eq_getElem hiw, ← ha0, ← hb0] at h1
        have h2 := Option.some.inj h1
        rw [h2]
        omega
      have E6 := Lib.hid (show joinC 58 ((ws.take (i + 1)).map hexW) = if i = 0 then hexN n else joinC 58 ((ws.take i).map hexW) ++ 58 :: hexN n by rw [pre6 ws i hiw, hwi]; rfl)
      obtain ⟨P, hP⟩ : ∃ P, P = joinC 58 ((ws.take i).map hexW) := ⟨_, rfl⟩
      have hPl : P.length ≤ 40 := by
        rw [hP]
        refine len6t ws i (by rw [HWL.out]; exact Nat.le_refl _) (fun m hm => ?_)
        obtain ⟨j, hj⟩ := List.getElem?_of_mem hm
        rw [HWS.out] at hj
        exact (wordsL_le bs j m hj).2
      have hPz : i = 0 → P = [] := fun h0 => by rw [hP, h0]; rfl
      rw [← hP] at E6
      rw [← hP]
      obtain ⟨N, hN⟩ : ∃ N, N = hexN n := ⟨_, rfl⟩
      have hNl : N.length ≤ 4 := by rw [hN]; exact hexN_len 3 n (by omega)
      have nt := specHexN n hn16
      rw [← hN] at nt
      have NT := Lib.hid nt
      rw [← hN] at E6
      have hnI : 256 * (a.toNat : Int) + (b.toNat : Int) = (n : Int) := by omega
      have ka := cell_regrown hca
      have kb := cell_regrown hcb
      clear hP ha0 hb0 hN nt hn hwi hca hcb
      by_cases hi0 : i = 0
      · subst hi0
        rw [hPz rfl]
        rw [hPz rfl, if_pos rfl] at E6
        have hz1 : ¬ 9223372036854775807 < (strOf []).size + (strOf N).size := by rw [strOf_size, strOf_size]; simp; omega
        clear hPz
        go_wp2_with fail
        refine wp_region_quiet_below (by kernel_rfl) (by kernel_rfl) ?_
        repeat (go_big_quiet_step ((go_at_call 30; exact Calls.regrown_of (NT.out _))))
        refine wpQuiet_nil ?_
        intro w2 hw2
        obtain ⟨⟨dq, osq⟩, hw2⟩ := hw2
        have b2 := below_regrown wr dq osq
        rw [← hw2] at b2
        clear hw2 ka kb
        have R1 := Lib.hid (own_below ho.out b2)
        have R2 := Lib.hid (bthen hb.out b2)
        go_wp2
        go_roundw
        case rel => exact ⟨1, by omega, by go_num, by rw [E6.out, ← strOf_append]; rfl, R1, R2⟩
        case measure => simp [intOf]
      · have hi0I : (0 : Int) < (i : Int) := by omega
        rw [if_neg hi0] at E6
        have hz1 : ¬ 9223372036854775807 < (strOf P).size + 1 := by rw [strOf_size]; omega
        have hz2 : ¬ 9223372036854775807 < (strOf P).size + 1 + (strOf N).size := by rw [strOf_size, strOf_size]; omega
        clear hPz
        go_wp2_with fail
        refine wp_region_quiet_below (by kernel_rfl) (by kernel_rfl) ?_
        repeat (go_big_quiet_step ((go_at_call 30; exact Calls.regrown_of (NT.out _))))
        refine wpQuiet_nil ?_
        intro w2 hw2
        obtain ⟨⟨dq, osq⟩, hw2⟩ := hw2
        have b2 := below_regrown wr dq osq
        rw [← hw2] at b2
        clear hw2 ka kb
        have R1 := Lib.hid (own_below ho.out b2)
        have R2 := Lib.hid (bthen hb.out b2)
        go_wp2
        go_roundw
        case rel => exact ⟨i + 1, by omega, by go_num, by rw [E6.out, show P ++ 58 :: N = (P ++ [58]) ++ N by simp, strOf_append, strOf_append]; rfl, R1, R2⟩
        case measure => simp [intOf]; omega
    · obtain rfl : i = 8 := by omega
      have e8 : (ws.take 8).map hexW = ws.map hexW := by rw [List.take_of_length_le (by rw [HWL.out]; exact Nat.le_refl _)]
      have EE := Lib.hid (show x.text = joinC 58 ((ws.take 8).map hexW) by rw [E.out, e8, HWS.out]; rfl)
      clear e8
      go_wp2
      go_ret
      unfold TextOut
      rw [EE.out]
      exact ⟨rfl, hb.out⟩

set_option maxRecDepth 100000 in
theorem specAddrText (x : Ad) (w : World) : Calls Tryd.prog 9 #[.agg #[.int .i64 x.k, .int .i64 x.a, .int .i64 x.b, .int .i64 x.c, .int .i64 x.d]] w (TextOut x w) := by
  cases h : x.ok
  · exact specText_no x h w
  · rcases x.ok_kind h with hk | hk
    · exact specText_four x h hk w
    · exact specText_six x h hk w
end Go.Proofs.YtckakpcjbndijabDoor
namespace Go.Proofs.YtckakpcjbndijabDoor
open Go.RowKit

set_option maxRecDepth 100000 in
theorem and_u64_15 (m : Nat) (h : m < 65536) : bits .and .u64 (m : Int) 15 = ((m % 16 : Nat) : Int) := by
  have e : (BitVec.ofInt 64 (m : Int)).toNat = m := by
    rw [BitVec.ofInt_natCast, BitVec.toNat_ofNat]
    exact Nat.mod_eq_of_lt (by omega)
  have e2 : m &&& 15 = m % 16 := Nat.and_two_pow_sub_one_eq_mod m 4
  show IntKind.u64.wrap ((BitVec.ofInt 64 (m : Int) &&& BitVec.ofInt 64 15).toNat : Int) = _
  rw [BitVec.toNat_and, e, show (BitVec.ofInt 64 15).toNat = 15 from rfl, e2, IntKind.wrap_u64]
  omega

set_option maxRecDepth 100000 in
set_option maxHeartbeats 400000 in
theorem trail16 (w : World) (ht : w.cell? ⟨3, 15, none⟩ = some (.int .u8 4)) :
    Calls Tryd.prog 111 #[.int .u64 16] w fun e w' => e = .returned (.int .i64 4) ∧ w = w' := by
  have h1 : bits .and .u64 16 (IntKind.u64.wrap (-16)) = 16 := by decide
  have h2 : IntKind.u64.wrap 4573923408821661840 = 4573923408821661840 := by decide
  go_enter Tryd.func111, Tryd.ntmps111
  go_wp2
  go_ret
  exact ⟨rfl, rfl⟩

set_option maxRecDepth 100000 in
set_option maxHeartbeats 400000 in
theorem trail16' (w : World) (ht : w.cell? ⟨3, 15, none⟩ = some (.int .u8 4)) :
    Calls Tryd.prog 103 #[.int .u64 16] w fun e w' => e = .returned (.int .i64 4) ∧ w = w' := by
  have T := Lib.hid (trail16 w ht)
  clear ht
  go_enter Tryd.func103, Tryd.ntmps103
  go_wp2_with (go_at_call 111; refine T.out.mono ?_; rintro e w' ⟨rfl, rfl⟩)
  go_ret
  exact ⟨rfl, rfl⟩

set_option maxRecDepth 100000 in
theorem pow_u16 : bits .and .i64 16 15 = 0 := by decide
set_option maxRecDepth 100000 in
theorem index_digits (d : Nat) (h : d < 16) (w : World) :
    (Instr.index 9 (.string ⟨#[48, 49, 50, 51, 52, 53, 54, 55, 56, 57, 97, 98, 99, 100, 101, 102, 103, 104, 105, 106, 107, 108, 109, 110, 111, 112, 113, 114, 115, 116, 117, 118, 119, 120, 121, 122]⟩) (.int .u64 (d : Int))).run Tryd.prog w = .ok (.int .u8 ((hexDig d).toNat : Int)) w := by
  have : d = 0 ∨ d = 1 ∨ d = 2 ∨ d = 3 ∨ d = 4 ∨ d = 5 ∨ d = 6 ∨ d = 7 ∨ d = 8 ∨ d = 9 ∨ d = 10 ∨ d = 11 ∨ d = 12 ∨ d = 13 ∨ d = 14 ∨ d = 15 := by omega
  rcases this with rfl | rfl | rfl | rfl | rfl | rfl | rfl | rfl | rfl | rfl | rfl | rfl | rfl | rfl | rfl | rfl <;> rfl
/-- The row of sixty-five bytes with its last ones written. -/
def hexRow65 (k : Nat) (ds : List UInt8) : List UInt8 := List.replicate (65 - k) 0 ++ ds
set_option maxRecDepth 100000 in
theorem hexRow65_len (k : Nat) (ds : List UInt8) (hk : k ≤ 65) (hd : ds.length = k) : (hexRow65 k ds).length = 65 := by simp [hexRow65]; omega
set_option maxRecDepth 100000 in
theorem hexRow65_set (k : Nat) (ds : List UInt8) (b : UInt8) (hk : k < 65) : (cellsOf (hexRow65 k ds)).set (64 - k) (.int .u8 (b.toNat : Int)) = cellsOf (hexRow65 (k + 1) (b :: ds)) := by
  unfold hexRow65
  rw [show 65 - k = (64 - k) + 1 by omega, List.replicate_succ', List.append_assoc, List.singleton_append, fill_step _ _ _ _ (64 - k) (by simp), show 65 - (k + 1) = 64 - k by omega, List.append_assoc, List.singleton_append]

set_option maxRecDepth 100000 in
set_option maxHeartbeats 400000 in
theorem powC (w : World) : Calls Tryd.prog 102 #[.int .i64 16] w fun e w' => e = .returned (.bool true) ∧ w = w' := by
  have hp := pow_u16
  go_enter Tryd.func102, Tryd.ntmps102
  go_wp2
  go_ret
  exact ⟨rfl, rfl⟩
set_option maxRecDepth 100000 in
theorem zeros65 : Tryd.zeroCells117 = (cellsOf (hexRow65 0 [])).toArray := by kernel_rfl
set_option maxRecDepth 100000 in
theorem slice_arr65 (g m : Nat) (h : m < 65) (w : World) : (Instr.sliceAt 117 (.pointer (some ⟨g, 0, none⟩)) (some (.int .i64 (m : Int))) none none).run Tryd.prog w = .ok (.slice (some ⟨g, m, none⟩) (65 - m) (65 - m)) w := by
  obtain ⟨i0, hi0, hz0, hz1, hz2⟩ := info_parts info_u8
  have e : Tryd.prog.elem 117 = 5 := by kernel_rfl
  have el : Tryd.prog.arrayLen 117 = 65 := by kernel_rfl
  rw [run_sliceAt_array_l w _ _ (by kernel_rfl) .i64 (m : Int) (by omega) (by rw [el]; omega)]
  simp [e, el, sizeOf, typeInfo, hi0, slicedAt, hz1, addr_add]
  omega

set_option maxRecDepth 100000 in
set_option maxHeartbeats 1000000 in
theorem formatBits16 (n : Nat) (hn : n < 65536) (w : World) (ht : w.cell? ⟨3, 15, none⟩ = some (.int .u8 4)) :
    Calls Tryd.prog 88 #[.slice none 0 0, .int .u64 (n : Int), .int .i64 16, .bool false, .bool false] w fun e w' => e = .returned (.tuple #[.slice none 0 0, .string (strOf (hexN n))]) ∧ Below w.heap.size w w' := by
  have T := Lib.hid (show ∀ o, Calls Tryd.prog 103 #[.int .u64 16] (w.alloc o) fun e w' => e = .returned (.int .i64 4) ∧ w.alloc o = w' from fun o => trail16' _ (cell_on (Joins.below_alloc1 w o) ht))
  clear ht
  go_enter Tryd.func88, Tryd.ntmps88
  go_wp2_with (first | (go_at_call 102; refine (powC _).mono ?_; rintro e w' ⟨rfl, rfl⟩) | (go_at_call 103; refine (T.out _).mono ?_; rintro e w' ⟨rfl, rfl⟩))
  go_loopw [1, 13] (fun u q wr => ∃ (k m : Nat) (ds : List UInt8), Hid (m * 16 ^ k ≤ 65535) ∧ k ≤ 3 ∧ m < 65536 ∧ u = .int .u64 (m : Int) ∧ q = .int .i64 (65 - (k : Int)) ∧ Hid (ds.length = k) ∧ Hid (hexN n = hexN m ++ ds) ∧ Hid (wr.heap[w.heap.size]? = some (.cells (cellsOf (hexRow65 k ds)).toArray 117 (0, 0))) ∧ Hid (Below w.heap.size w wr)) (fun u _ _ => (intOf u).toNat)
  case atStart => exact ⟨0, n, [], Lib.hid (by simp; omega), by omega, hn, rfl, rfl, Lib.hid rfl, Lib.hid (by simp), Lib.hid (by rw [← zeros65]; exact heap_alloc_new w _), Lib.hid (Joins.below_alloc1 w _)⟩
  case round =>
    obtain ⟨k, m, ds, hmk, hk, hm, rfl, rfl, hdl, hdig, hrow, hb⟩ := hrel
    have hidx := index_digits (m % 16) (by omega)
    by_cases h16 : m < 16
    · have h16I : ¬ (16 : Int) ≤ (m : Int) := by omega
      have hidx2 := index_digits m h16
      have R := heap_setCell_same wr w.heap.size (64 - k) _ _ (.int .u8 ((hexDig m).toNat : Int)) hrow.out
      rw [List.setIfInBounds_toArray, hexRow65_set k ds (hexDig m) (by omega)] at R
      have hc : ∃ v, wr.cell? ⟨w.heap.size, 64 - k, none⟩ = some v := by
        rw [cell_of_row wr _ (64 - k) _ _ _ hrow.out]
        exact ⟨_, Array.getElem?_eq_getElem (by rw [cells_size, hexRow65_len k ds (by omega) hdl.out]; omega)⟩
      obtain ⟨v, hc⟩ := hc
      have hfz := frozen_of_row wr w.heap.size (64 - k) _ _ hrow.out
      have hE := Lib.hid (show hexN n = hexDig m :: ds by rw [hdig.out, hexN_small m h16]; rfl)
      have hlen : (hexDig m :: ds).length = 65 - (64 - k) := by rw [List.length_cons, hdl.out]; omega
      have hrb : RB (wr.setCell ⟨w.heap.size, 64 - k, none⟩ (.int .u8 ((hexDig m).toNat : Int))) (w.heap.size + 1) (some ⟨w.heap.size, 64 - k, none⟩) (hexDig m :: ds) := by
        intro _
        refine ⟨w.heap.size, 64 - k, rfl, by omega, fun j u hu => ?_⟩
        rw [cell_of_row _ _ _ _ _ _ R]
        have : (hexRow65 (k + 1) (hexDig m :: ds))[64 - k + j]? = some u := by
          unfold hexRow65
          rw [List.getElem?_append_right (by simp)]
          simp only [List.length_replicate]
          rw [show 64 - k + j - (65 - (k + 1)) = j by omega]
          exact hu
        simpa using cellsOf_get _ _ _ this
      have hcv := conv_b _ _ (some ⟨w.heap.size, 64 - k, none⟩) (65 - (64 - k)) (65 - (64 - k)) (hexDig m :: ds) hlen hrb
      have hsl := slice_arr65 w.heap.size (64 - k) (by omega)
      have hB := Lib.hid (hb.out.setCell (p := ⟨w.heap.size, 64 - k, none⟩) (Nat.le_refl _) (.int .u8 ((hexDig m).toNat : Int)))
      obtain ⟨i, hi⟩ : ∃ i : Nat, i = 64 - k := ⟨_, rfl⟩
      have hiI : 65 - (k : Int) - 1 = (i : Int) := by omega
      rw [← hi] at hc hfz hcv hsl hB
      clear R hrb hlen hi hidx
      go_wp2
      go_ret2
      rw [hE.out]
      exact ⟨rfl, hB.out⟩
    · have h16I : (16 : Int) ≤ (m : Int) := by omega
      have hand := and_u64_15 m hm
      have hk2 : k ≤ 2 := by
        rcases (show k = 0 ∨ k = 1 ∨ k = 2 ∨ k = 3 by omega) with h | h | h | h
        · omega
        · omega
        · omega
        · have := hmk.out
          rw [h] at this
          omega
      obtain ⟨d, hd⟩ : ∃ d : Nat, d = m % 16 := ⟨_, rfl⟩
      obtain ⟨q, hq⟩ : ∃ q : Nat, q = m / 16 := ⟨_, rfl⟩
      have hqI : (m : Int) / 16 = (q : Int) := by omega
      have R := heap_setCell_same wr w.heap.size (64 - k) _ _ (.int .u8 ((hexDig d).toNat : Int)) hrow.out
      rw [List.setIfInBounds_toArray, hexRow65_set k ds (hexDig d) (by omega)] at R
      have HR := Lib.hid R
      have hc : ∃ v, wr.cell? ⟨w.heap.size, 64 - k, none⟩ = some v := by
        rw [cell_of_row wr _ (64 - k) _ _ _ hrow.out]
        exact ⟨_, Array.getElem?_eq_getElem (by rw [cells_size, hexRow65_len k ds (by omega) hdl.out]; omega)⟩
      obtain ⟨v, hc⟩ := hc
      have hfz := frozen_of_row wr w.heap.size (64 - k) _ _ hrow.out
      have hE := Lib.hid (show hexN n = hexN q ++ hexDig d :: ds by rw [hdig.out, hexN_big m h16, hd, hq, List.append_assoc]; rfl)
      have hB := Lib.hid (hb.out.setCell (p := ⟨w.heap.size, 64 - k, none⟩) (Nat.le_refl _) (.int .u8 ((hexDig d).toNat : Int)))
      have hMK := Lib.hid (show q * 16 ^ (k + 1) ≤ 65535 by
        have h1 := hmk.out
        have h2 : q * 16 ≤ m := by omega
        have h3 : q * 16 * 16 ^ k ≤ m * 16 ^ k := Nat.mul_le_mul_right _ h2
        rw [Nat.pow_succ, Nat.mul_comm (16 ^ k) 16, ← Nat.mul_assoc]
        omega)
      have hDL := Lib.hid (show (hexDig d :: ds).length = k + 1 by rw [List.length_cons, hdl.out])
      obtain ⟨i, hi⟩ : ∃ i : Nat, i = 64 - k := ⟨_, rfl⟩
      have hiI : 65 - (k : Int) - 1 = (i : Int) := by omega
      have hqm : q < m := by omega
      rw [← hd] at hand hidx
      rw [← hi] at hc hfz hB HR
      have HI := Lib.hid (show (i : Int) = 65 - ((k + 1 : Nat) : Int) by omega)
      clear R hi hd hq h16
      go_wp2
      go_roundw
      case rel => exact ⟨k + 1, q, hexDig d :: ds, hMK, by omega, by omega, rfl, by rw [HI.out], hDL, hE, HR, hB⟩
      case measure => simp [intOf]; omega

set_option maxRecDepth 100000 in
set_option maxHeartbeats 400000 in
theorem formatInt16 (n : Nat) (hn : n < 65536) (w : World) (ht : w.cell? ⟨3, 15, none⟩ = some (.int .u8 4)) :
    Calls Tryd.prog 34 #[.int .i64 (n : Int), .int .i64 16] w fun e w' => e = .returned (.string (strOf (hexN n))) ∧ Below w.heap.size w w' := by
  have T := Lib.hid (formatBits16 n hn w ht)
  clear ht
  go_enter Tryd.func34, Tryd.ntmps34
  go_wp2_with (first | (go_at_call 88; refine T.out.mono ?_; rintro e w1 ⟨rfl, b1⟩) | go_in)
  go_ret
  exact ⟨rfl, b1⟩
end Go.Proofs.YtckakpcjbndijabDoor
namespace Go.Proofs
open Go.Shelf
def Tryd.lays156_ren : Go.Shelf.Ren := ⟨fun | 156 => 32 | 165 => 60 | 166 => 61 | 169 => 62 | 240 => 83 | 241 => 84 | 276 => 97 | 277 => 98 | n => n, fun | 31 => 51 | 9 => 9 | 3 => 3 | 4 => 4 | 0 => 0 | 20 => 20 | 72 => 78 | 76 => 82 | 70 => 76 | 37 => 42 | 75 => 81 | 127 => 99 | 164 => 112 | 5 => 5 | 80 => 84 | n => n, fun | n => n⟩
theorem Tryd.lays156 : Go.Proofs.Lays.n156 Tryd.prog Tryd.lays156_ren := {
  mixed := by kernel_rfl
  f156 := Tryd.func32.trans (congrArg some (by kernel_rfl))
  f165 := Tryd.func60.trans (congrArg some (by kernel_rfl))
  f166 := Tryd.func61.trans (congrArg some (by kernel_rfl))
  f169 := Tryd.func62.trans (congrArg some (by kernel_rfl))
  f240 := Tryd.func83.trans (congrArg some (by kernel_rfl))
  f241 := Tryd.func84.trans (congrArg some (by kernel_rfl))
  f276 := Tryd.func97.trans (congrArg some (by kernel_rfl))
  f277 := Tryd.func98.trans (congrArg some (by kernel_rfl))
  t0 := Tryd.underlying0
  a0 := Tryd.isAgg0
  z0 := Tryd.sizeOf0
  v0 := Tryd.zeroValue0
  t3 := Tryd.underlying3
  a3 := Tryd.isAgg3
  z3 := Tryd.sizeOf3
  v3 := Tryd.zeroValue3
  t4 := Tryd.underlying4
  a4 := Tryd.isAgg4
  z4 := Tryd.sizeOf4
  v4 := Tryd.zeroValue4
  t9 := Tryd.underlying9
  a9 := Tryd.isAgg9
  z9 := Tryd.sizeOf9
  v9 := Tryd.zeroValue9
  t20 := Tryd.underlying20
  a20 := Tryd.isAgg20
  z20 := Tryd.sizeOf20
  v20 := Tryd.zeroValue20
  t31 := Tryd.underlying51
  a31 := Tryd.isAgg51
  z31 := Tryd.sizeOf51
  v31 := Tryd.zeroValue51
  t37 := Tryd.underlying42
  a37 := Tryd.isAgg42
  z37 := Tryd.sizeOf42
  v37 := Tryd.zeroValue42
  t70 := Tryd.underlying76
  a70 := Tryd.isAgg76
  z70 := Tryd.sizeOf76
  v70 := Tryd.zeroValue76
  t72 := Tryd.underlying78
  a72 := Tryd.isAgg78
  z72 := Tryd.sizeOf78
  v72 := Tryd.zeroValue78
  t75 := Tryd.underlying81
  a75 := Tryd.isAgg81
  z75 := Tryd.sizeOf81
  v75 := Tryd.zeroValue81
  t76 := Tryd.underlying82
  a76 := Tryd.isAgg82
  z76 := Tryd.sizeOf82
  v76 := Tryd.zeroValue82
  t127 := Tryd.underlying99
  a127 := Tryd.isAgg99
  z127 := Tryd.sizeOf99
  v127 := Tryd.zeroValue99
  t164 := Tryd.underlying112
  a164 := Tryd.isAgg112
  z164 := Tryd.sizeOf112
  v164 := Tryd.zeroValue112 }
theorem Tryd.Builder_Extra_156 : Builder.Extra Tryd.prog Tryd.lays156_ren := {
  sizeBuilder := by kernel_rfl
  liesBuilder := by kernel_rfl
  t5 := Tryd.underlying5
  a5 := Tryd.isAgg5
  z5 := Tryd.sizeOf5
  v5 := Tryd.zeroValue5
  infoByte := by kernel_rfl
  cellsByte := by kernel_rfl
  sizeByte := by kernel_rfl
  neB5 := by decide }
open Go.RowKit in
theorem Tryd.strings_Join_none (a : Option Addr) (c : Nat) (sep : ByteArray) (w : World) :
    Calls Tryd.prog 32 #[.slice a 0 c, .string sep] w fun e w' => e = .returned (.string ⟨#[]⟩) ∧ w' = w := Any.strings_Join_none Tryd.lays156 Tryd.Builder_Extra_156 a c sep w
open Go.RowKit in
theorem Tryd.strings_Join (bk o c : Nat) (xs : List ByteArray) (sep : ByteArray) (w : World) (hcells : ∀ (j : Nat) x, xs[j]? = some x → w.cell? ⟨bk, o + j, none⟩ = some (.string x)) (hbk : bk < w.heap.size) (hN : xs.length ≤ 140737488355328) (hcap : xs.length ≤ c) (hlen : (Lib.join (xs.map (·.data.toList)) sep.data.toList).length ≤ 140737488355328) :
    Calls Tryd.prog 32 #[.slice (some ⟨bk, o, none⟩) xs.length c, .string sep] w fun e w' => e = .returned (.string ⟨(Lib.join (xs.map (·.data.toList)) sep.data.toList).toArray⟩) ∧ Below w.heap.size w w' := Any.strings_Join Tryd.lays156 Tryd.Builder_Extra_156 bk o c xs sep w hcells hbk hN hcap hlen
def Tryd.laysM171_ren : Go.Shelf.Ren := ⟨fun | 171 => 59 | 243 => 82 | 246 => 63 | 283 => 85 | 284 => 86 | 285 => 87 | 286 => 88 | 129 => 100 | 317 => 99 | 318 => 101 | 319 => 102 | 320 => 103 | 337 => 110 | 338 => 111 | n => n, fun | 3 => 3 | 9 => 9 | 2 => 2 | 4 => 4 | 171 => 100 | 0 => 0 | 53 => 101 | 37 => 42 | 5 => 5 | 173 => 104 | 212 => 115 | 51 => 116 | 20 => 20 | 213 => 117 | 46 => 85 | 232 => 127 | 233 => 128 | n => n, fun | 17 => 0 | 18 => 2 | 19 => 3 | n => n⟩
theorem Tryd.laysM171 : Go.Proofs.LaysM.n171 Tryd.prog Tryd.laysM171_ren := {
  mixed := by kernel_rfl
  f129 := Tryd.func100.trans (congrArg some (by kernel_rfl))
  f171 := Tryd.func59.trans (congrArg some (by kernel_rfl))
  f243 := Tryd.func82.trans (congrArg some (by kernel_rfl))
  f246 := Tryd.func63.trans (congrArg some (by kernel_rfl))
  f283 := Tryd.func85.trans (congrArg some (by kernel_rfl))
  f284 := Tryd.func86.trans (congrArg some (by kernel_rfl))
  f285 := Tryd.func87.trans (congrArg some (by kernel_rfl))
  f286 := Tryd.func88.trans (congrArg some (by kernel_rfl))
  f317 := Tryd.func99.trans (congrArg some (by kernel_rfl))
  f318 := Tryd.func101.trans (congrArg some (by kernel_rfl))
  f319 := Tryd.func102.trans (congrArg some (by kernel_rfl))
  f320 := Tryd.func103.trans (congrArg some (by kernel_rfl))
  f337 := Tryd.func110.trans (congrArg some (by kernel_rfl))
  f338 := Tryd.func111.trans (congrArg some (by kernel_rfl))
  t0 := Tryd.underlying0
  a0 := Tryd.isAgg0
  z0 := Tryd.sizeOf0
  v0 := Tryd.zeroValue0
  t2 := Tryd.underlying2
  a2 := Tryd.isAgg2
  z2 := Tryd.sizeOf2
  v2 := Tryd.zeroValue2
  t3 := Tryd.underlying3
  a3 := Tryd.isAgg3
  z3 := Tryd.sizeOf3
  v3 := Tryd.zeroValue3
  t4 := Tryd.underlying4
  a4 := Tryd.isAgg4
  z4 := Tryd.sizeOf4
  v4 := Tryd.zeroValue4
  t5 := Tryd.underlying5
  a5 := Tryd.isAgg5
  z5 := Tryd.sizeOf5
  v5 := Tryd.zeroValue5
  t9 := Tryd.underlying9
  a9 := Tryd.isAgg9
  z9 := Tryd.sizeOf9
  v9 := Tryd.zeroValue9
  t20 := Tryd.underlying20
  a20 := Tryd.isAgg20
  z20 := Tryd.sizeOf20
  v20 := Tryd.zeroValue20
  t37 := Tryd.underlying42
  a37 := Tryd.isAgg42
  z37 := Tryd.sizeOf42
  v37 := Tryd.zeroValue42
  t46 := Tryd.underlying85
  a46 := Tryd.isAgg85
  z46 := Tryd.sizeOf85
  v46 := Tryd.zeroValue85
  t51 := Tryd.underlying116
  a51 := Tryd.isAgg116
  z51 := Tryd.sizeOf116
  v51 := Tryd.zeroValue116
  t53 := Tryd.underlying101
  a53 := Tryd.isAgg101
  z53 := Tryd.sizeOf101
  v53 := Tryd.zeroValue101
  t171 := Tryd.underlying100
  a171 := Tryd.isAgg100
  z171 := Tryd.sizeOf100
  v171 := Tryd.zeroValue100
  t173 := Tryd.underlying104
  a173 := Tryd.isAgg104
  z173 := Tryd.sizeOf104
  v173 := Tryd.zeroValue104
  t212 := Tryd.underlying115
  a212 := Tryd.isAgg115
  z212 := Tryd.sizeOf115
  v212 := Tryd.zeroValue115
  t213 := Tryd.underlying117
  a213 := Tryd.isAgg117
  z213 := Tryd.sizeOf117
  t232 := Tryd.underlying127
  a232 := Tryd.isAgg127
  z232 := Tryd.sizeOf127
  v232 := Tryd.zeroValue127
  t233 := Tryd.underlying128
  a233 := Tryd.isAgg128
  z233 := Tryd.sizeOf128
  v233 := Tryd.zeroValue128
  g17 := by kernel_rfl
  g18 := by kernel_rfl
  g19 := by kernel_rfl
  i0 := by kernel_rfl
  i2 := by kernel_rfl
  i3 := by kernel_rfl
  i4 := by kernel_rfl
  i5 := by kernel_rfl
  i9 := by kernel_rfl
  i20 := by kernel_rfl
  i37 := by kernel_rfl
  i46 := by kernel_rfl
  i51 := by kernel_rfl
  i53 := by kernel_rfl
  i171 := by kernel_rfl
  i173 := by kernel_rfl
  i212 := by kernel_rfl
  i232 := by kernel_rfl
  i233 := by kernel_rfl
  m17 := by kernel_rfl
  m18 := by kernel_rfl
  m19 := by kernel_rfl }
open Go.RowKit Go.Sort Go.Lib in
theorem Tryd.strconv_Itoa (n : Int) (h0 : -9223372036854775808 ≤ n) (h1 : n ≤ 9223372036854775807) (w : World) (htab : Lib.TabIs Tryd.prog w "internal/strconv.uint64pow10" .u64 Lib.pow10Tab) :
    Calls Tryd.prog 59 #[.int .i64 n] w fun e w' => e = .returned (.string ⟨(Lib.itoa n).toArray⟩) ∧ ∃ k os, w' = grow (w.drewN k) os := Any.strconv_Itoa Tryd.laysM171 n h0 h1 w htab
end Go.Proofs
namespace Go.Proofs.YtckakpcjbndijabDoor
open Go.RowKit

set_option maxRecDepth 100000 in
theorem dec_digits (n : Nat) : n ≠ 0 → dec n = Lib.decDigits n := by
  induction n using Nat.strongRecOn with
  | ind n ih =>
    intro h
    rw [dec_pos n h, Lib.decDigits]
    by_cases h10 : n < 10
    · rw [dif_pos h10, show n / 10 = 0 by omega, dec_zero, show n % 10 = n by omega]
      rfl
    · rw [dif_neg h10, ih (n / 10) (by omega) (by omega)]

set_option maxRecDepth 100000 in
theorem numText_itoa (n : Int) : numText n = Lib.itoa n := by
  unfold numText Lib.itoa
  by_cases h0 : n = 0
  · subst h0
    rw [if_pos rfl, if_neg (by omega), Lib.decDigits, dif_pos (by decide)]
    rfl
  · rw [if_neg h0]
    by_cases hn : n < 0
    · rw [if_pos hn, if_pos hn, dec_digits _ (by omega)]
    · rw [if_neg hn, if_neg hn, dec_digits _ (by omega), show n.toNat = n.natAbs by omega]

set_option maxRecDepth 100000 in
theorem below_grow (w : World) (k : Nat) (os : Array Obj) : Below w.heap.size w (Sort.grow (w.drewN k) os) := by
  refine ⟨rfl, rfl, rfl, ?_, fun i hi => ?_⟩
  · simp [Sort.grow]
  · simp only [Sort.grow, World.heap_drewN]
    rw [Array.getElem?_append_left hi]

abbrev tabName : String := "internal/strconv.uint64pow10"
set_option maxRecDepth 100000 in
theorem gTab : Tryd.prog.globalNamed tabName = some 0 := by kernel_rfl
set_option maxRecDepth 100000 in
theorem gTabType : (Tryd.prog.globals[0]?).map (·.type) = some 115 := by kernel_rfl

set_option maxRecDepth 100000 in
set_option maxHeartbeats 400000 in
theorem implNumText (n : Int) (w : World) (h0 : -9223372036854775808 ≤ n) (h1 : n ≤ 9223372036854775807) (htab : Lib.TabIs Tryd.prog w tabName .u64 Lib.pow10Tab) :
    Calls Tryd.prog 31 #[.int .i64 n] w fun e w' => e = .returned (.string (strOf (numText n))) ∧ Below w.heap.size w w' := by
  have c := Tryd.strconv_Itoa n h0 h1 w htab
  rw [← numText_itoa] at c
  have C := Lib.hid c
  clear c
  go_enter Tryd.func31, Tryd.ntmps31
  go_wp2_with fail
  refine C.out.mono ?_
  rintro e w' ⟨rfl, k, os, rfl⟩
  go_wp2
  go_ret
  exact ⟨rfl, below_grow w k os⟩

end Go.Proofs.YtckakpcjbndijabDoor
namespace Go.Proofs.YtckakpcjbndijabDoor
open Go.RowKit

/-- The slice that begins at A reads as the cells vs, and lies below block number B. -/
def RV (w : World) (B : Nat) (A : Option Addr) (vs : List Value) : Prop :=
  0 < vs.length → ∃ g o, A = some ⟨g, o, none⟩ ∧ g < B ∧ ∀ j v, vs[j]? = some v → w.cell? ⟨g, o + j, none⟩ = some v

section
variable {w w' : World} {B B' : Nat} {A : Option Addr} {vs : List Value}

set_option maxRecDepth 100000 in
theorem RV.below (h : RV w B A vs) (hb : Below B w w') : RV w' B A vs := by
  intro hp
  obtain ⟨g, o, e, hg, hc⟩ := h hp
  exact ⟨g, o, e, hg, fun j u hu => (hb.cell (p := ⟨g, o + j, none⟩) hg).trans (hc j u hu)⟩

set_option maxRecDepth 100000 in
theorem RV.more (h : RV w B A vs) (hB : B ≤ B') : RV w B' A vs := by
  intro hp
  obtain ⟨g, o, e, hg, hc⟩ := h hp
  exact ⟨g, o, e, by omega, hc⟩

set_option maxRecDepth 100000 in
theorem RV.on (h : RV w w.heap.size A vs) (hb : Below w.heap.size w w') : RV w' w'.heap.size A vs := (h.below hb).more hb.size

set_option maxRecDepth 100000 in
theorem RV.nil_ (w : World) (B : Nat) (A : Option Addr) : RV w B A [] := fun h => absurd h (by simp)

set_option maxRecDepth 100000 in
theorem RV.of_own {base size : Nat} {e : TypeId} {n c : Nat} (h : w.ownsRow base e size (.slice A n c) n vs) : RV w w.heap.size A vs := by
  intro hp
  have hl := h.1
  rcases h.2 with ⟨h1, h2⟩ | ⟨g, cap, cur, hv, _, hg, _⟩
  · rw [h2, Nat.zero_mul] at hl
    omega
  · injection hv with hA hn hc
    subst hA
    subst hc
    refine ⟨g, 0, rfl, (Array.getElem?_eq_some_iff.1 hg).1, fun j u hu => ?_⟩
    have hj : j < vs.length := by
      rcases Nat.lt_or_ge j vs.length with h | h
      · exact h
      · rw [List.getElem?_eq_none h] at hu; cases hu
    rw [Nat.zero_add, h.cellAt j (by omega)]
    exact hu

set_option maxRecDepth 100000 in
theorem RV.at_ (h : RV w B A vs) {k : Nat} (hk : k < vs.length) : ∃ g o, A = some ⟨g, o, none⟩ ∧ g < B ∧ w.cell? ⟨g, o + k, none⟩ = some vs[k] := by
  obtain ⟨g, o, e, hg, hc⟩ := h (by omega)
  exact ⟨g, o, e, hg, hc k _ (List.getElem?_eq_getElem hk)⟩

set_option maxRecDepth 100000 in
/-- A new row reads as its cells. -/
theorem RV.new (w : World) (e : TypeId) (vs : List Value) : RV (w.alloc (.cells vs.toArray e)) (w.heap.size + 1) (some ⟨w.heap.size, 0, none⟩) vs := by
  intro hp
  refine ⟨w.heap.size, 0, rfl, by omega, fun j u hu => ?_⟩
  rw [cell_of_row _ w.heap.size (0 + j) _ e (0, 0) (heap_alloc_new w _)]
  simpa using hu
end

set_option maxRecDepth 100000 in
theorem run_append_v (w : World) (t ty e : TypeId) (i0 : TypeInfo) (z : Value) (size bytes : Nat) (ht : Tryd.prog.underlying t = some (.slice e)) (hi0 : Tryd.prog.info? e = some i0) (hz0 : i0.zero = some z) (hz1 : i0.size = size) (hz2 : i0.bytes = bytes) (hzs : z.cells.size = size) (hsz : 0 < size)
    (base : Nat) (v : Value) (n : Nat) (xs : List Value) (hown : w.ownsRow base e size v n xs) (B : Nat) (A : Option Addr) (m c : Nat) (ds : List Value) (hm : ds.length = m * size) (hr : RV w B A ds) (h1 : ∀ u ∈ ds, u.oneCell' = true)
    (h63 : n + m ≤ maxLen) (hby : (n + m) * bytes ≤ 140737488355328) (hbase : base ≤ w.heap.size) :
    ∃ v' w', (Builtin.append_ #[t, t] ty #[v, .slice A m c]).run Tryd.prog w = .ok v' w' ∧ w'.ownsRow base e size v' (n + m) (xs ++ ds) ∧ w.grownBy w' v.ownBlock ∧
      (v'.ownBlock = v.ownBlock ∨ v'.ownBlock = some w.heap.size) := by
  rcases A with _ | ad
  · have h0 : ds = [] := by
      rcases ds with _ | ⟨d, ds⟩
      · rfl
      · obtain ⟨g, o, h, _⟩ := hr (by simp)
        cases h
    subst h0
    have hm0 : m = 0 := by
      rcases Nat.mul_eq_zero.1 (show m * size = 0 from hm.symm) with h | h
      · exact h
      · omega
    subst hm0
    refine ⟨v, w, ?_, by simpa using hown, World.grownBy.refl _ _, .inl rfl⟩
    rcases hown.2 with ⟨rfl, h0⟩ | ⟨g, cap, cur, rfl, _, _, hnc, _⟩
    · simp [Builtin.append_, run_underlying ht, sizeOf, typeInfo, hi0, Builtin.lenOf, Builtin.firstCells]
    · simp [Builtin.append_, run_underlying ht, sizeOf, typeInfo, hi0, Builtin.lenOf, Builtin.firstCells, hnc, storeCells]
  · obtain ⟨v', w', g1, g2, g3, _, g5⟩ := run_append_own_at (P := Tryd.prog) w base t ty e i0 z size bytes ht hi0 hz0 hz1 hz2 hzs hsz v n xs hown ad m c ds hm (by
        intro j u hu
        have hj : j < ds.length := by
          rcases Nat.lt_or_ge j ds.length with h | h
          · exact h
          · rw [List.getElem?_eq_none h] at hu; cases hu
        obtain ⟨g, o, h, _, hc⟩ := hr (by omega)
        injection h with h
        subst h
        rw [addr_add]
        exact hc j u hu) h1 h63 hby hbase
    exact ⟨v', w', g1, g2, g3, g5⟩

/-- The cells of a list of integers. -/
def intsOf (xs : List Int) : List Value := xs.map fun n => .int .i64 n

set_option maxRecDepth 100000 in
theorem intsOf_length (xs : List Int) : (intsOf xs).length = xs.length := by simp [intsOf]
set_option maxRecDepth 100000 in
theorem intsOf_get (xs : List Int) (j : Nat) (u : Int) (h : xs[j]? = some u) : (intsOf xs)[j]? = some (.int .i64 u) := by simp [intsOf, h]
set_option maxRecDepth 100000 in
theorem intsOf_append (a b : List Int) : intsOf (a ++ b) = intsOf a ++ intsOf b := by simp [intsOf]
set_option maxRecDepth 100000 in
theorem intsOf_one (xs : List Int) : ∀ u ∈ intsOf xs, u.oneCell' = true := by
  intro u hu
  simp only [intsOf, List.mem_map] at hu
  obtain ⟨b, _, rfl⟩ := hu
  rfl
set_option maxRecDepth 100000 in
theorem RV.int {w : World} {B : Nat} {A : Option Addr} {xs : List Int} (h : RV w B A (intsOf xs)) {k : Nat} (hk : k < xs.length) : ∃ g o, A = some ⟨g, o, none⟩ ∧ g < B ∧ w.cell? ⟨g, o + k, none⟩ = some (.int .i64 xs[k]) := by
  obtain ⟨g, o, e, hg, hc⟩ := h (by rw [intsOf_length]; omega)
  exact ⟨g, o, e, hg, hc k _ (intsOf_get _ _ _ (List.getElem?_eq_getElem hk))⟩

set_option maxRecDepth 100000 in
theorem info_int : (Tryd.prog.info? 3).map (fun i => (i.zero, i.size, i.bytes)) = some (some (.int .i64 0), 1, 8) := by kernel_rfl

set_option maxRecDepth 100000 in
theorem run_append_i (w : World) (ty base : Nat) (v : Value) (n : Nat) (xs : List Int) (hown : w.ownsRow base 3 1 v n (intsOf xs)) (B : Nat) (A : Option Addr) (m c : Nat) (ds : List Int) (hm : ds.length = m) (hr : RV w B A (intsOf ds))
    (hn : n + m ≤ 67108864) (hbase : base ≤ w.heap.size) :
    ∃ v' w', (Builtin.append_ #[53, 53] ty #[v, .slice A m c]).run Tryd.prog w = .ok v' w' ∧ w'.ownsRow base 3 1 v' (n + m) (intsOf (xs ++ ds)) ∧ w.grownBy w' v.ownBlock ∧
      (v'.ownBlock = v.ownBlock ∨ v'.ownBlock = some w.heap.size) := by
  obtain ⟨i0, hi0, hz0, hz1, hz2⟩ := info_parts info_int
  rw [intsOf_append]
  exact run_append_v w 53 ty 3 i0 (.int .i64 0) 1 8 Tryd.underlying53 hi0 hz0 hz1 hz2 rfl (by omega) base v n _ hown B A m c _ (by rw [intsOf_length, hm, Nat.mul_one]) hr (intsOf_one ds) (by unfold maxLen; omega) (by omega) hbase

set_option maxRecDepth 100000 in
/-- 'append' onto a row of integers of the call's own, from whatever source of integers. -/
theorem wpList_append_i {w : World} {ops : Array Oper} {rest : List Oper} {o : Oper} {a : Act} {Q : Exit → Act → World → Prop} (hgd : o.guard = none) (s x : Operand)
    (ho : o.op = .call { callee := .builtin .append, args := #[s, x], argTypes := #[53, 53] }) (base : Nat) (v : Value) (n : Nat) (xs : List Int) (hs : a.eval s = v) (hown : w.ownsRow base 3 1 v n (intsOf xs))
    (B : Nat) (A : Option Addr) (m c : Nat) (ds : List Int) (hx : a.eval x = .slice A m c) (hm : ds.length = m) (hr : RV w B A (intsOf ds)) (hn : n + m ≤ 67108864) (hbase : base ≤ w.heap.size)
    (h : ∀ v' w', w'.ownsRow base 3 1 v' (n + m) (intsOf (xs ++ ds)) → w.grownBy w' v.ownBlock → (v'.ownBlock = v.ownBlock ∨ v'.ownBlock = some w.heap.size) → wpList Tryd.prog ops Q rest (a.put o.dst v') w') :
    wpList Tryd.prog ops Q (o :: rest) a w := by
  refine wpList_plain hgd fun K hK => ?_
  obtain ⟨v', w', hrun, h2, h3, h4⟩ := run_append_i w o.type base v n xs hown B A m c ds hm hr hn hbase
  unfold Oper.wp execOp
  simp only [ho, resolve, invoke, builtin, Sem.run_bind, Sem.run_pure, Result.andThen_ok, List.map_toArray, List.map_cons, List.map_nil, hs, hx, hrun]
  exact hK _ _ (h v' w' h2 h3 h4)

set_option maxRecDepth 100000 in
/-- The same, as one step of a region that draws its order. -/
theorem step_append_i {w : World} {ops : Array Oper} {o : Oper} {a : Act} {K : Act → World → Prop} {Q : Exit → Act → World → Prop} {E : Prop} (hgd : o.guard = none) (s x : Operand)
    (ho : o.op = .call { callee := .builtin .append, args := #[s, x], argTypes := #[53, 53] }) (base : Nat) (v : Value) (n : Nat) (xs : List Int) (hs : a.eval s = v) (hown : w.ownsRow base 3 1 v n (intsOf xs))
    (B : Nat) (A : Option Addr) (m c : Nat) (ds : List Int) (hx : a.eval x = .slice A m c) (hm : ds.length = m) (hr : RV w B A (intsOf ds)) (hn : n + m ≤ 67108864) (hbase : base ≤ w.heap.size)
    (h : ∀ v' w', w'.ownsRow base 3 1 v' (n + m) (intsOf (xs ++ ds)) → w.grownBy w' v.ownBlock → (v'.ownBlock = v.ownBlock ∨ v'.ownBlock = some w.heap.size) → K (a.put o.dst v') w') :
    if Region.wanted o (yielded ops a.tmps) = true then Oper.wp Tryd.prog o a w K Q else E := by
  have hw : Region.wanted o (yielded ops a.tmps) = true := by simp [Region.wanted, hgd]
  rw [if_pos hw]
  obtain ⟨v', w', hrun, h2, h3, h4⟩ := run_append_i w o.type base v n xs hown B A m c ds hm hr hn hbase
  unfold Oper.wp execOp
  simp only [ho, resolve, invoke, builtin, Sem.run_bind, Sem.run_pure, Result.andThen_ok, List.map_toArray, List.map_cons, List.map_nil, hs, hx, hrun]
  exact h v' w' h2 h3 h4
end Go.Proofs.YtckakpcjbndijabDoor
namespace Go.Proofs.YtckakpcjbndijabDoor
open Go.RowKit

set_option maxRecDepth 100000 in
theorem int_fill (pre tail : List Int) (x b : Int) (k : Nat) (hk : pre.length = k) : (intsOf (pre ++ x :: tail)).set k (.int .i64 b) = intsOf ((pre ++ [b]) ++ tail) := by
  have h := set_mid (intsOf pre) (.int .i64 x) (.int .i64 b) (intsOf tail) k (by rw [intsOf_length]; exact hk)
  simpa [intsOf] using h

set_option maxRecDepth 100000 in
theorem int_copy (xs : List Int) (k : Nat) (h : k < xs.length) :
    (intsOf (xs.take k ++ List.replicate (xs.length - k) 0)).set k (.int .i64 xs[k]) = intsOf (xs.take (k + 1) ++ List.replicate (xs.length - (k + 1)) 0) := by
  rw [show xs.length - k = (xs.length - (k + 1)) + 1 by omega, List.replicate_succ, int_fill _ _ _ _ k (by simp; omega), take_snoc xs k h]

/-- A slice of integers that came in: what the walk is told of it. -/
structure InI (w : World) (A : Option Addr) (n c : Nat) (xs : List Int) : Prop where
  len : xs.length = n
  cap : n ≤ c
  big : c ≤ maxLen
  rb : RV w w.heap.size A (intsOf xs)
  wf : ∀ x ∈ xs, (Lit.int .i64 x).wf = true

set_option maxRecDepth 100000 in
open Go.ChangeShapes Go.WideShapes Go.ChangeAt in
theorem ints_in {H : Type} {enc : TypeId × Value → H} {w : World} {A : Option Addr} {n c : Nat} {d : DataW H} {p : List MemPlace} (h : DataW.Trod enc Tryd.prog w 0 (fun _ => true) true 53 (.slice A n c) d p) :
    ∃ xs, InI w A n c xs := by
  obtain ⟨fuel, hf⟩ := h
  rcases open_ints Tryd.underlying53 Tryd.underlying3 (by kernel_rfl) hf with ⟨hcs, _⟩ | ⟨x, l, cp, zs, hcs, _, hl, hm, hz, _, hcell, hwz⟩
  · simp [Value.cells] at hcs
    obtain ⟨rfl, rfl, rfl⟩ := hcs
    exact ⟨[], rfl, Nat.le_refl _, Nat.zero_le _, RV.nil_ _ _ _, by simp⟩
  · simp [Value.cells] at hcs
    obtain ⟨rfl, rfl, rfl⟩ := hcs
    simp only [if_true] at hz
    refine ⟨zs.take n, by simp; omega, hl, hm, fun hp => ?_, fun x hx => hwz x (List.mem_of_mem_take hx)⟩
    simp only [intsOf_length, List.length_take] at hp
    obtain ⟨g, o, spot⟩ := x
    have h0 := hcell 0 (by omega)
    have hspot : spot = none := by simpa [Addr.add] using World.cell?_spot h0
    subst hspot
    refine ⟨g, o, rfl, ?_, fun j u hu => ?_⟩
    · have := World.block_lt_of_cell? w _ h0
      simpa [addr_add] using this
    · simp only [intsOf, List.getElem?_map, Option.map_eq_some_iff, List.getElem?_take] at hu
      obtain ⟨z, hz1, rfl⟩ := hu
      split at hz1
      · have hj : j < zs.length := by omega
        have hc := hcell j hj
        rw [addr_add] at hc
        rw [hc]
        have hzj : zs[j] = z := by rw [List.getElem?_eq_getElem hj] at hz1; simpa using hz1
        simp [hj, hzj]
      · cases hz1
end Go.Proofs.YtckakpcjbndijabDoor
namespace Go.Proofs.YtckakpcjbndijabDoor
open Go.RowKit

/-- The row of words as it is being filled. -/
def wRow (bs : List UInt8) (k : Nat) : List Int := wordsL (bs.take k) ++ List.replicate ((bs.length + 1) / 2 - (k + 1) / 2) 0
set_option maxRecDepth 100000 in
theorem wRow_zero (bs : List UInt8) : wRow bs 0 = List.replicate ((bs.length + 1) / 2) 0 := by simp [wRow, wordsL]
set_option maxRecDepth 100000 in
theorem wRow_full (bs : List UInt8) : wRow bs bs.length = wordsL bs := by simp [wRow]
set_option maxRecDepth 100000 in
theorem wRow_length (bs : List UInt8) (k : Nat) (h : k ≤ bs.length) : (wRow bs k).length = (bs.length + 1) / 2 := by
  rw [wRow, List.length_append, wordsL_length, List.length_replicate, List.length_take, Nat.min_eq_left h]
  omega
set_option maxRecDepth 100000 in
theorem wRow_even (bs : List UInt8) (k : Nat) (h : k < bs.length) (he : k % 2 = 0) :
    (intsOf (wRow bs k)).set (k / 2) (.int .i64 ((bs[k].toNat : Int) * 256)) = intsOf (wRow bs (k + 1)) := by
  rw [wRow, wRow, show (bs.length + 1) / 2 - (k + 1) / 2 = ((bs.length + 1) / 2 - (k + 1 + 1) / 2) + 1 by omega, List.replicate_succ, int_fill _ _ _ _ (k / 2) (by rw [wordsL_length, List.length_take]; omega), wordsL_even bs k h he, Int.mul_comm]
set_option maxRecDepth 100000 in
theorem wRow_get (bs : List UInt8) (k : Nat) (h : k < bs.length) (he : k % 2 = 1) : (wRow bs k)[k / 2]? = some (256 * (bs[k - 1].toNat : Int)) := by
  have e := wordsL_even bs (k - 1) (by omega) (by omega)
  rw [show k - 1 + 1 = k by omega] at e
  rw [wRow, e, List.append_assoc, List.getElem?_append_right (by rw [wordsL_length, List.length_take]; omega), wordsL_length, List.length_take, show k / 2 - (min (k - 1) bs.length + 1) / 2 = 0 by omega]
  rfl
set_option maxRecDepth 100000 in
theorem wRow_odd (bs : List UInt8) (k : Nat) (h : k < bs.length) (he : k % 2 = 1) :
    (intsOf (wRow bs k)).set (k / 2) (.int .i64 ((bs[k - 1].toNat : Int) * 256 + bs[k].toNat)) = intsOf (wRow bs (k + 1)) := by
  have e := wordsL_even bs (k - 1) (by omega) (by omega)
  have e2 := wordsL_odd bs (k - 1) (by omega) (by omega)
  have e3 : bs[k - 1 + 1]'(by omega) = bs[k] := by congr 1; omega
  rw [show k - 1 + 1 = k by omega] at e
  rw [e3, show k - 1 + 2 = k + 1 by omega] at e2
  rw [wRow, wRow, e, e2, show (k + 1 + 1) / 2 = (k + 1) / 2 by omega, List.append_assoc, List.singleton_append, int_fill _ _ _ _ (k / 2) (by rw [wordsL_length, List.length_take]; omega), Int.mul_comm]

set_option maxRecDepth 100000 in
set_option maxHeartbeats 1000000 in
theorem wordsOfC (A : Option Addr) (c : Nat) (bs : List UInt8) (w : World) (hr : RB w w.heap.size A bs) (hn : bs.length ≤ 1048576) :
    Calls Tryd.prog 33 #[.slice A bs.length c] w fun e w' => e = .returned (.slice (some ⟨w.heap.size, 0, none⟩) ((bs.length + 1) / 2) ((bs.length + 1) / 2)) ∧
      w'.ownsRow w.heap.size 3 1 (.slice (some ⟨w.heap.size, 0, none⟩) ((bs.length + 1) / 2) ((bs.length + 1) / 2)) ((bs.length + 1) / 2) (intsOf (wordsL bs)) ∧ Below w.heap.size w w' := by
  obtain ⟨i0, hi0, hz0, hz1, hz2⟩ := info_parts info_int
  go_enter Tryd.func33, Tryd.ntmps33
  go_wp2_with (at_make; refine wpList_make_full _ rfl _ _ 53 rfl w.heap.size 3 i0 (.int .i64 0) 1 Tryd.underlying53 hi0 hz0 hz1 _ _ _ _ ((bs.length + 1) / 2) rfl rfl (by omega) (by omega) (by rw [hz2]; omega) (by unfold maxLen; omega) (Nat.le_refl _) ?_; intro w1 hown hgrow)
  have hown0 : w1.ownsRow w.heap.size 3 1 (.slice (some ⟨w.heap.size, 0, none⟩) ((bs.length + 1) / 2) ((bs.length + 1) / 2)) ((bs.length + 1) / 2) (intsOf (wRow bs 0)) := by
    have e : (madeCells (Value.int IntKind.i64 0).cells ((bs.length + 1) / 2 * 1)).toList = intsOf (wRow bs 0) := by
      rw [wRow_zero]
      have := toList_madeCells_one (.int .i64 0) ((bs.length + 1) / 2)
      simpa [Value.cells, intsOf] using this
    rw [← e]; exact hown
  have hb1 : Below w.heap.size w w1 := (Below.refl _ _).grown hgrow (Nat.le_refl _) (by simp)
  clear hown hgrow
  go_loopw [13] (fun i wr => ∃ k : Nat, k ≤ bs.length ∧ i = .int .i64 k ∧ wr.ownsRow w.heap.size 3 1 (.slice (some ⟨w.heap.size, 0, none⟩) ((bs.length + 1) / 2) ((bs.length + 1) / 2)) ((bs.length + 1) / 2) (intsOf (wRow bs k)) ∧ Below w.heap.size w wr) (fun i _ => bs.length - (intOf i).toNat)
  case atStart => exact ⟨0, Nat.zero_le _, rfl, hown0, hb1⟩
  case round =>
    obtain ⟨k, hk, rfl, ho, hb⟩ := hrel
    clear hown0 hb1
    by_cases hlt : k < bs.length
    · obtain ⟨g, o, rfl, hg, hc0⟩ := hr.at_ hlt
      have hc : wr.cell? ⟨g, o + k, none⟩ = some (.int .u8 (bs[k].toNat : Int)) := (hb.cell (p := ⟨g, o + k, none⟩) hg).trans hc0
      have hb8 : bs[k].toNat < 256 := UInt8.toNat_lt _
      have hi2 : k / 2 < (bs.length + 1) / 2 := by omega
      have hfz := ho.frozenAt (k / 2)
      by_cases he : k % 2 = 0
      · have het : ((k : Int) % 2 == 0) = true := by simp; omega
        obtain ⟨u, hu⟩ : ∃ u, wr.cell? ⟨w.heap.size, k / 2, none⟩ = some u := by
          rw [ho.cellAt (k / 2) (by omega)]
          exact ⟨_, List.getElem?_eq_getElem (by rw [intsOf_length, wRow_length bs k hk]; omega)⟩
        have R := ho.stored (k / 2) (.int .i64 ((bs[k].toNat : Int) * 256))
        rw [wRow_even bs k hlt he] at R
        have R1 := Lib.hid R.1
        have R2 := Lib.hid (hb.setCell (p := ⟨w.heap.size, k / 2, none⟩) (Nat.le_refl _) (.int .i64 ((bs[k].toNat : Int) * 256)))
        clear R ho hc0 hr hb he
        go_wp2
        go_roundw
        case rel => exact ⟨k + 1, by omega, by go_num, R1.out, R2.out⟩
        case measure => simp [intOf]; omega
      · have hef : ((k : Int) % 2 == 0) = false := by simp; omega
        have hb7 : (bs[k - 1]'(by omega)).toNat < 256 := UInt8.toNat_lt _
        have hcell : wr.cell? ⟨w.heap.size, k / 2, none⟩ = some (.int .i64 ((bs[k - 1].toNat : Int) * 256)) := by
          rw [ho.cellAt (k / 2) (by omega), intsOf_get _ _ _ (wRow_get bs k hlt (by omega)), Int.mul_comm]
        have hor := or_byte (bs[k - 1]'(by omega)).toNat bs[k].toNat (by omega) hb8
        have R := ho.stored (k / 2) (.int .i64 ((bs[k - 1].toNat : Int) * 256 + bs[k].toNat))
        rw [wRow_odd bs k hlt (by omega)] at R
        have R1 := Lib.hid R.1
        have R2 := Lib.hid (hb.setCell (p := ⟨w.heap.size, k / 2, none⟩) (Nat.le_refl _) (.int .i64 ((bs[k - 1].toNat : Int) * 256 + bs[k].toNat)))
        clear R ho hc0 hr hb he
        go_wp2
        go_roundw
        case rel => exact ⟨k + 1, by omega, by go_num, R1.out, R2.out⟩
        case measure => simp [intOf]; omega
    · obtain rfl : k = bs.length := by omega
      rw [wRow_full] at ho
      have Ho := Lib.hid ho
      clear ho
      go_wp2
      go_ret
      exact ⟨rfl, Ho.out, hb⟩

end Go.Proofs.YtckakpcjbndijabDoor
namespace Go.Proofs.YtckakpcjbndijabDoor
open Go.RowKit

/-- The cells of a list of texts. -/
def strsOf (xs : List (List UInt8)) : List Value := xs.map fun l => .string (strOf l)
set_option maxRecDepth 100000 in
theorem strsOf_length (xs : List (List UInt8)) : (strsOf xs).length = xs.length := by simp [strsOf]
set_option maxRecDepth 100000 in
theorem strsOf_append (a b : List (List UInt8)) : strsOf (a ++ b) = strsOf a ++ strsOf b := by simp [strsOf]
set_option maxRecDepth 100000 in
theorem strsOf_one (xs : List (List UInt8)) : ∀ u ∈ strsOf xs, u.oneCell' = true := by
  intro u hu
  simp only [strsOf, List.mem_map] at hu
  obtain ⟨b, _, rfl⟩ := hu
  rfl
set_option maxRecDepth 100000 in
theorem info_str : (Tryd.prog.info? 9).map (fun i => (i.zero, i.size, i.bytes)) = some (some (.string ByteArray.empty), 1, 16) := by kernel_rfl

set_option maxRecDepth 100000 in
/-- 'append' of one text onto a row of texts of the call's own. -/
theorem wpList_append_s {w : World} {ops : Array Oper} {rest : List Oper} {o : Oper} {a : Act} {Q : Exit → Act → World → Prop} (hgd : o.guard = none) (s x : Operand)
    (ho : o.op = .call { callee := .builtin .append, args := #[s, x], argTypes := #[51, 51] }) (base : Nat) (v : Value) (n : Nat) (xs : List (List UInt8)) (hs : a.eval s = v) (hown : w.ownsRow base 9 1 v n (strsOf xs))
    (B : Nat) (A : Option Addr) (m c : Nat) (ds : List (List UInt8)) (hx : a.eval x = .slice A m c) (hm : ds.length = m) (hr : RV w B A (strsOf ds)) (hn : n + m ≤ 1048576) (hbase : base ≤ w.heap.size)
    (h : ∀ v' w', w'.ownsRow base 9 1 v' (n + m) (strsOf (xs ++ ds)) → w.grownBy w' v.ownBlock → wpList Tryd.prog ops Q rest (a.put o.dst v') w') :
    wpList Tryd.prog ops Q (o :: rest) a w := by
  refine wpList_plain hgd fun K hK => ?_
  obtain ⟨i0, hi0, hz0, hz1, hz2⟩ := info_parts info_str
  obtain ⟨v', w', hrun, h2, h3, h4⟩ := run_append_v w 51 o.type 9 i0 (.string ByteArray.empty) 1 16 Tryd.underlying51 hi0 hz0 hz1 hz2 rfl (by omega) base v n _ hown B A m c _ (by rw [strsOf_length, hm, Nat.mul_one]) hr (strsOf_one ds) (by unfold maxLen; omega) (by omega) hbase
  rw [← strsOf_append] at h2
  unfold Oper.wp execOp
  simp only [ho, resolve, invoke, builtin, Sem.run_bind, Sem.run_pure, Result.andThen_ok, List.map_toArray, List.map_cons, List.map_nil, hs, hx, hrun]
  exact hK _ _ (h v' w' h2 h3)

/-- What the two tables of the library hold. -/
structure Tabs (w : World) : Prop where
  ten : Lib.TabIs Tryd.prog w tabName .u64 Lib.pow10Tab
  lt : 0 < w.heap.size
  de : w.cell? ⟨3, 15, none⟩ = some (.int .u8 4)
set_option maxRecDepth 100000 in
theorem Tabs.on {w w' : World} (h : Tabs w) (hb : Below w.heap.size w w') : Tabs w' := ⟨var?_below hb gTab h.lt h.ten, Nat.lt_of_lt_of_le h.lt hb.size, cell_on hb h.de⟩

set_option maxRecDepth 100000 in
theorem joinText (c : UInt8) (ps : List (List UInt8)) (v : Value) (n : Nat) (base : Nat) (w : World) (ho : w.ownsRow base 9 1 v n (strsOf ps)) (hn : ps.length = n) (hs : (joinC c ps).length ≤ 1048576) (hN : n ≤ 1048576) :
    Calls Tryd.prog 32 #[v, .string ⟨#[c]⟩] w fun e w' => e = .returned (.string (strOf (joinC c ps))) ∧ Below w.heap.size w w' := by
  obtain ⟨D, k, rfl⟩ := own_form ho
  by_cases h0 : n = 0
  · subst h0
    obtain rfl : ps = [] := List.eq_nil_of_length_eq_zero hn
    exact (Tryd.strings_Join_none D k ⟨#[c]⟩ w).mono fun e w' ⟨he, hw⟩ => ⟨by rw [he]; rfl, by rw [hw]; exact Below.refl _ _⟩
  · obtain ⟨g, hD, hcap, hg⟩ : ∃ g, D = some ⟨g, 0, none⟩ ∧ n ≤ k ∧ g < w.heap.size := by
      rcases ho.2 with ⟨_, h2⟩ | ⟨g, cap, cur, hv, _, hg, hnc, _⟩
      · omega
      · injection hv with hA hB hC
        exact ⟨g, hA, by omega, row_lt hg⟩
    subst hD
    have hx : (ps.map strOf).map (·.data.toList) = ps := by simp [strOf, Function.comp_def]
    have h := Tryd.strings_Join g 0 k (ps.map strOf) ⟨#[c]⟩ w (fun j x hj => by
      rw [Nat.zero_add, ho.cellAt j (by
        have := (List.getElem?_eq_some_iff.1 hj).1
        simp at this
        omega)]
      simp only [strsOf, List.getElem?_map] at hj ⊢
      cases hp : ps[j]? with
      | none => rw [hp] at hj; cases hj
      | some l => rw [hp] at hj; simp at hj; simp [hj]) hg (by simp; omega) (by simp; omega) (by rw [hx]; exact Nat.le_trans hs (by omega))
    rw [hx, List.length_map, hn] at h
    exact h

def textK (x : Ad) : List UInt8 := if x.k = 4 then joinC 46 (x.bytes.map numB) else joinC 58 ((wordsL x.bytes).map hexW)
set_option maxRecDepth 100000 in
theorem textK_eq (x : Ad) : textK x = x.text := by
  unfold textK Ad.text Ad.bytes
  cases h : x.ok
  · simp [joinC_nil, wordsL]
  · rcases x.ok_kind h with hk | hk
    · simp [hk, text4]
    · simp [hk, text6]
set_option maxRecDepth 100000 in
theorem bytes_le (x : Ad) : x.bytes.length ≤ 16 := by
  unfold Ad.bytes
  split
  · split
    · simp [put32]
    · rw [x.whole_length]; omega
  · simp

set_option maxRecDepth 100000 in
set_option maxHeartbeats 1000000 in
theorem implText_four (x : Ad) (hk : x.k = 4) (w : World) (ht : Tabs w) : Calls Tryd.prog 11 #[.agg #[.int .i64 x.k, .int .i64 x.a, .int .i64 x.b, .int .i64 x.c, .int .i64 x.d]] w fun e w' => e = .returned (.string (strOf (joinC 46 (x.bytes.map numB)))) ∧ Below w.heap.size w w' := by
  obtain ⟨bs, hbs⟩ : ∃ bs, x.bytes = bs := ⟨_, rfl⟩
  obtain ⟨L, hL⟩ : ∃ L, bs.length = L := ⟨_, rfl⟩
  have hL16 : L ≤ 16 := by rw [← hL, ← hbs]; exact bytes_le x
  have so : ∀ v : World, Calls Tryd.prog 24 #[.agg #[.int .i64 x.k, .int .i64 x.a, .int .i64 x.b, .int .i64 x.c, .int .i64 x.d]] v fun e v' => ∃ A c, e = .returned (.slice A L c) ∧ v'.ownsRow v.heap.size 5 1 (.slice A L c) L (cellsOf bs) ∧ Below v.heap.size v v' := by
    intro v
    have hh := implAddrBytes x v
    unfold BytesOut at hh
    rwa [hbs, hL] at hh
  rw [hbs]
  have SO := Lib.hid so
  have HL := Lib.hid hL
  have HK := Lib.hid hk
  have HT := Lib.hid ht
  clear so hbs hL hk ht
  go_enter Tryd.func11, Tryd.ntmps11
  go_wp2_with fail
  refine (SO.out _).mono ?_
  rintro e w1 ⟨A, k1, rfl, o1, b1⟩
  obtain ⟨c0, c1, c2, c3, c4⟩ := ad_box b1
  have O1 := Lib.hid o1
  have B1 := Lib.hid (bthen (Joins.below_alloc1 w _) b1)
  have T1 := Lib.hid (HT.out.on B1.out)
  have hk := HK.out
  clear o1 b1
  go_wp2_with fail
  go_loopw [4, 16] (fun v q wr => ∃ i : Nat, i ≤ L ∧ q = .int .i64 i ∧ Hid (wr.ownsRow w1.heap.size 9 1 v i (strsOf ((bs.take i).map numB))) ∧ Hid (Below w1.heap.size w1 wr)) (fun _ q _ => L - (intOf q).toNat)
  case atStart => exact ⟨0, Nat.zero_le _, rfl, Lib.hid ⟨rfl, .inl ⟨rfl, rfl⟩⟩, Lib.hid (Below.refl _ _)⟩
  case round =>
    obtain ⟨i, hi, rfl, ho, hb⟩ := hrel
    by_cases hlt : i < L
    · have hltI : (i : Int) < (L : Int) := by omega
      have hil : i < bs.length := by rw [HL.out]; exact hlt
      obtain ⟨g, rfl⟩ : ∃ g, A = some ⟨g, 0, none⟩ := by
        rcases O1.out.2 with ⟨_, h2⟩ | ⟨g, cap, cur, hv, _⟩
        · omega
        · injection hv with hA
          exact ⟨g, hA⟩
      have hb256 := UInt8.toNat_lt bs[i]
      have hc1 : w1.cell? ⟨g, i, none⟩ = some (.int .u8 (bs[i].toNat : Int)) := by
        rw [O1.out.cellAt i (by omega), cellsOf_get bs i _ (List.getElem?_eq_getElem hil)]
      have hc : wr.cell? ⟨g, i, none⟩ = some (.int .u8 (bs[i].toNat : Int)) := cell_on hb.out hc1
      obtain ⟨b, hb0⟩ : ∃ b : UInt8, b = bs[i] := ⟨_, rfl⟩
      rw [← hb0] at hc hb256
      obtain ⟨N, hN⟩ : ∃ N, N = numB b := ⟨_, rfl⟩
      have nt : ∀ v, Tabs v → Calls Tryd.prog 31 #[.int .i64 (b.toNat : Int)] v fun e v' => e = .returned (.string (strOf N)) ∧ Below v.heap.size v v' := by
        intro v hv
        have := implNumText (b.toNat : Int) v (by omega) (by omega) hv.ten
        rwa [show numText (b.toNat : Int) = N from hN.symm] at this
      have NT := Lib.hid nt
      have E := Lib.hid (show (bs.take (i + 1)).map numB = (bs.take i).map numB ++ [N] by rw [take_snoc bs i hil, List.map_append, List.map_singleton, hN, hb0])
      clear hc1 hb0 hN nt c0 c1 c2 c3 c4 hk
      go_wp2_with fail
      refine (NT.out _ (T1.out.on hb.out)).mono ?_
      rintro e w2 ⟨rfl, b2⟩
      have hlo := fun u (hu : u4.ownBlock = some u) => (ho.out.lt u hu).1
      have HLO := Lib.hid hlo
      have o2 := Lib.hid (own_below (own_below ho.out b2) (Joins.below_alloc1 w2 (.cells #[.string (strOf N)] 9)))
      have B2 := Lib.hid (hb.out.trans (b2.mono hb.out.size))
      have hz := hb.out.size
      have hz2 := b2.size
      clear hlo
      go_wp2_with (at_builtin; refine wpList_append_s rfl (.tmp 20) (.tmp 24) rfl w1.heap.size u4 i ((bs.take i).map numB) rfl o2.out _ (some ⟨w2.heap.size, 0, none⟩) 1 1 [N] rfl rfl (RV.new w2 9 (strsOf [N])) (by omega) (by simp; omega) ?_; intro v3 w3 o3 g3)
      have R1 := Lib.hid (show w3.ownsRow w1.heap.size 9 1 v3 (i + 1) (strsOf ((bs.take (i + 1)).map numB)) by rw [E.out]; exact o3)
      have R2 := Lib.hid (show Below w1.heap.size w1 w3 from (B2.out.alloc (by omega) (.cells #[.string (strOf N)] 9)).grown g3 (by simp; omega) HLO.out)
      go_wp2
      go_roundw
      case rel => exact ⟨i + 1, by omega, by go_num, R1, R2⟩
      case measure => simp [intOf]; omega
    · obtain rfl : i = L := by omega
      have hltI : ¬ (i : Int) < (i : Int) := by omega
      have e4 : (bs.take i).map numB = bs.map numB := by rw [List.take_of_length_le (by rw [HL.out]; exact Nat.le_refl _)]
      have o5 := ho.out
      rw [e4] at o5
      have jt := Lib.hid (joinText 46 (bs.map numB) u4 i w1.heap.size wr o5 (by rw [List.length_map, HL.out]) (by
        have h1 := joinC_len 46 3 (bs.map numB) (fun x hx => by
          obtain ⟨b, _, rfl⟩ := List.mem_map.1 hx
          exact numB_len b)
        rw [List.length_map, HL.out] at h1
        omega) (by omega))
      clear o5 e4
      go_wp2_with fail
      refine jt.out.mono ?_
      rintro e w6 ⟨rfl, b6⟩
      go_wp2
      go_ret
      exact ⟨rfl, bthen (B1.out.trans (hb.out.mono B1.out.size)) b6⟩
end Go.Proofs.YtckakpcjbndijabDoor
namespace Go.Proofs.YtckakpcjbndijabDoor
open Go.RowKit

set_option maxRecDepth 100000 in
theorem index_one (c : UInt8) : ∀ l : List UInt8, (Lib.index l [c] = -1 ∧ c ∉ l) ∨ ∃ a r, l = a ++ c :: r ∧ c ∉ a ∧ Lib.index l [c] = (a.length : Int) := by
  intro l
  induction l with
  | nil => exact .inl ⟨by simp [Lib.index], by simp⟩
  | cons b l ih =>
    by_cases h : b = c
    · subst h
      exact .inr ⟨[], l, rfl, by simp, by simp [Lib.index]⟩
    · have hp : ([c] : List UInt8).isPrefixOf (b :: l) = false := by simp [List.isPrefixOf, Ne.symm h]
      rcases ih with ⟨h1, h2⟩ | ⟨a, r, rfl, h2, h3⟩
      · refine .inl ⟨?_, by simp [h2, Ne.symm h]⟩
        rw [Lib.index, hp, h1]
        rfl
      · refine .inr ⟨b :: a, r, rfl, by simp [h2, Ne.symm h], ?_⟩
        rw [Lib.index, hp, h3]
        have : ¬ (((a.length : Int) == -1) = true) := by simp
        rw [if_neg (by simp), if_neg this]
        simp
set_option maxRecDepth 100000 in
theorem indexByte_mem (c : UInt8) : ∀ l : List UInt8, decide (0 ≤ Lib.indexByte l c) = decide (c ∈ l) := by
  intro l
  induction l with
  | nil => simp [Lib.indexByte]
  | cons b l ih =>
    have hge := Lib.indexByte_ge l c
    have ih2 : (0 ≤ Lib.indexByte l c) ↔ c ∈ l := by simpa using ih
    rw [Lib.indexByte]
    by_cases h : b = c
    · subst h
      simp
    · rw [if_neg (by simpa using h)]
      by_cases h2 : Lib.indexByte l c = -1
      · have : ¬ c ∈ l := fun hm => by have := ih2.2 hm; omega
        simp [h2, this, Ne.symm h]
      · have h3 : c ∈ l := ih2.1 (by omega)
        rw [if_neg (by simpa using h2)]
        simp [h3]
        omega
set_option maxRecDepth 100000 in
theorem splitK_C (c : UInt8) : ∀ (n : Nat) (l : List UInt8), l.length ≤ n → Lib.splitK [c] 0 (Lib.count l [c]) l = splitC c l ∧ (splitC c l).length = Lib.count l [c] + 1 := by
  intro n
  induction n with
  | zero =>
    intro l h
    obtain rfl : l = [] := List.eq_nil_of_length_eq_zero (by omega)
    have e : Lib.count [] [c] = 0 := Lib.count_miss (by simp [Lib.index])
    rw [e]
    exact ⟨rfl, rfl⟩
  | succ n ih =>
    intro l h
    rcases index_one c l with ⟨h1, h2⟩ | ⟨a, r, rfl, h2, h3⟩
    · rw [Lib.count_miss h1, split_one c l h2]
      exact ⟨rfl, rfl⟩
    · have e := Lib.count_hit (by simp) h3
      have ed : (a ++ c :: r).drop (a.length + [c].length) = r := by simp
      have et : (a ++ c :: r).take (a.length + 0) = a := by simp
      rw [ed] at e
      obtain ⟨i1, i2⟩ := ih r (by simp at h; omega)
      rw [split_cut c r a h2, e, Nat.add_comm 1, Lib.splitK, h3]
      have hn : ¬ (((a.length : Int) == -1) = true) := by simp
      rw [if_neg hn, Int.toNat_natCast, ed, et, i1]
      exact ⟨rfl, by rw [List.length_cons, i2]⟩
set_option maxRecDepth 100000 in
theorem split_size (c : UInt8) (l : List UInt8) : ∀ p ∈ splitC c l, p.length ≤ l.length := by
  induction l with
  | nil => intro p hp; simp [splitC] at hp; simp [hp]
  | cons b l ih =>
    intro p hp
    by_cases h : b = c
    · subst h
      rw [splitC_hit] at hp
      rcases List.mem_cons.1 hp with h1 | h1
      · simp [h1]
      · have := ih p h1
        simp; omega
    · obtain ⟨q, qs, e⟩ := splitC_cons c l
      rw [splitC_other c b l q qs h e] at hp
      rw [e] at ih
      rcases List.mem_cons.1 hp with h1 | h1
      · have := ih q (by simp)
        rw [h1]; simp; omega
      · have := ih p (by simp [h1])
        simp; omega

/-- What the parts of a text lie in. -/
def SplitOut (ps : List (List UInt8)) (w : World) (e : Ending) (w' : World) : Prop :=
  ∃ g, e = .returned (.slice (some ⟨g, 0, none⟩) ps.length ps.length) ∧ (∀ (j : Nat) (p : List UInt8), ps[j]? = some p → w'.cell? ⟨g, j, none⟩ = some (.string (strOf p))) ∧ Below w.heap.size w w'
set_option maxRecDepth 100000 in
theorem splitCall (c : UInt8) (s : ByteArray) (m : Int) (w : World) (hs : s.size ≤ 1048576) (hm : w.cell? ⟨1, 0, none⟩ = some (.int .i64 m)) : Calls Tryd.prog 67 #[.string s, .string ⟨#[c]⟩] w (SplitOut (splitC c s.data.toList) w) := by
  refine (Tryd.strings_Split s ⟨#[c]⟩ m w (by omega) hm (by simp [ByteArray.size])).mono ?_
  rintro e w' ⟨rfl, rfl⟩
  obtain ⟨h1, h2⟩ := splitK_C c _ s.data.toList (Nat.le_refl _)
  have e1 : (Lib.splitB ⟨#[c]⟩ 0 (Lib.countB s ⟨#[c]⟩) s).map (·.data.toList) = splitC c s.data.toList := (Lib.splitB_data _ _ _ _).trans h1
  refine ⟨w.heap.size, by rw [h2], fun j p hp => ?_, Joins.below_alloc1 w _⟩
  rw [cell_of_row _ w.heap.size j _ 9 (0, 0) (heap_alloc_new w _)]
  rw [← e1, List.getElem?_map, Option.map_eq_some_iff] at hp
  obtain ⟨b, hb, rfl⟩ := hp
  rw [List.getElem?_toArray, List.getElem?_map, hb]
  rfl
set_option maxRecDepth 100000 in
theorem containsCall (c : UInt8) (s : ByteArray) (w : World) : Calls Tryd.prog 39 #[.string s, .string ⟨#[c]⟩] w fun e w' => e = .returned (.bool (decide (c ∈ s.data.toList))) ∧ w' = w := by
  rw [← indexByte_mem]
  exact Tryd.strings_Contains_one s c w

/-- What a reading of an address answers. -/
def ReadOut (r : Option Ad) (w : World) (e : Ending) (w' : World) : Prop := e = .returned (.tuple #[.agg #[.int .i64 (r.getD Ad.zero).k, .int .i64 (r.getD Ad.zero).a, .int .i64 (r.getD Ad.zero).b, .int .i64 (r.getD Ad.zero).c, .int .i64 (r.getD Ad.zero).d], .bool r.isSome]) ∧ Below w.heap.size w w'
set_option maxRecDepth 100000 in
theorem readOut_no {r : Option Ad} {w w' : World} (h : r = none) (hb : Below w.heap.size w w') : ReadOut r w (.returned (.tuple #[.agg #[.int .i64 0, .int .i64 0, .int .i64 0, .int .i64 0, .int .i64 0], .bool false])) w' := by
  subst h
  exact ⟨rfl, hb⟩
set_option maxRecDepth 100000 in
theorem readOut_yes {r : Option Ad} {y : Ad} {w w' : World} (h : r = some y) (hb : Below w.heap.size w w') : ReadOut r w (.returned (.tuple #[.agg #[.int .i64 y.k, .int .i64 y.a, .int .i64 y.b, .int .i64 y.c, .int .i64 y.d], .bool true])) w' := by
  subst h
  exact ⟨rfl, hb⟩
end Go.Proofs.YtckakpcjbndijabDoor
namespace Go.Proofs.YtckakpcjbndijabDoor
open Go.RowKit

set_option maxRecDepth 100000 in
set_option maxHeartbeats 1000000 in
theorem implText_six (x : Ad) (hk : ¬ x.k = 4) (w : World) (ht : Tabs w) : Calls Tryd.prog 11 #[.agg #[.int .i64 x.k, .int .i64 x.a, .int .i64 x.b, .int .i64 x.c, .int .i64 x.d]] w fun e w' => e = .returned (.string (strOf (joinC 58 ((wordsL x.bytes).map hexW)))) ∧ Below w.heap.size w w' := by
  obtain ⟨bs, hbs⟩ : ∃ bs, x.bytes = bs := ⟨_, rfl⟩
  obtain ⟨L, hL⟩ : ∃ L, bs.length = L := ⟨_, rfl⟩
  have hL16 : L ≤ 16 := by rw [← hL, ← hbs]; exact bytes_le x
  have so : ∀ v : World, Calls Tryd.prog 24 #[.agg #[.int .i64 x.k, .int .i64 x.a, .int .i64 x.b, .int .i64 x.c, .int .i64 x.d]] v fun e v' => ∃ A c, e = .returned (.slice A L c) ∧ v'.ownsRow v.heap.size 5 1 (.slice A L c) L (cellsOf bs) ∧ Below v.heap.size v v' := by
    intro v
    have hh := implAddrBytes x v
    unfold BytesOut at hh
    rwa [hbs, hL] at hh
  rw [hbs]
  obtain ⟨ws, hws⟩ : ∃ ws, ws = wordsL bs := ⟨_, rfl⟩
  obtain ⟨M, hM⟩ : ∃ M, M = (L + 1) / 2 := ⟨_, rfl⟩
  have hM8 : M ≤ 8 := by omega
  have hwl : ws.length = M := by rw [hws, wordsL_length, hL, hM]
  have wo : ∀ (v : World) (A : Option Addr) (c : Nat), RB v v.heap.size A bs → Calls Tryd.prog 33 #[.slice A L c] v fun e v' => e = .returned (.slice (some ⟨v.heap.size, 0, none⟩) M M) ∧ v'.ownsRow v.heap.size 3 1 (.slice (some ⟨v.heap.size, 0, none⟩) M M) M (intsOf ws) ∧ Below v.heap.size v v' := by
    intro v A c hr
    have hh := wordsOfC A c bs v hr (by omega)
    rwa [hL, ← hM, ← hws] at hh
  rw [← hws]
  have hwv : ∀ (j : Nat) (n : Int), ws[j]? = some n → 0 ≤ n ∧ n ≤ 65535 := fun j n h => wordsL_le bs j n (by rw [← hws]; exact h)
  have SO := Lib.hid so
  have WO := Lib.hid wo
  have HWL := Lib.hid hwl
  have HWV := Lib.hid hwv
  have HK := Lib.hid hk
  have HT := Lib.hid ht
  clear so wo hbs hL hk ht hws hM hwl hwv
  go_enter Tryd.func11, Tryd.ntmps11
  go_wp2_with fail
  refine (SO.out _).mono ?_
  rintro e w1 ⟨A, k1, rfl, o1, b1⟩
  obtain ⟨c0, c1, c2, c3, c4⟩ := ad_box b1
  have B1 := bthen (Joins.below_alloc1 w _) b1
  have hk := HK.out
  go_wp2_with fail
  refine (WO.out _ _ _ (RB.of_own o1)).mono ?_
  rintro e w2 ⟨rfl, o2, b2⟩
  have O2 := Lib.hid o2
  have B2 := Lib.hid (bthen B1 b2)
  have T2 := Lib.hid (HT.out.on B2.out)
  have hz12 := Lib.hid b2.size
  clear o1 o2 b1 b2 B1 c0 c1 c2 c3 c4
  go_wp2_with fail
  go_loopw [4, 32] (fun v q wr => ∃ i : Nat, i ≤ M ∧ q = .int .i64 i ∧ Hid (wr.ownsRow w2.heap.size 9 1 v i (strsOf ((ws.take i).map hexW))) ∧ Hid (Below w2.heap.size w2 wr)) (fun _ q _ => M - (intOf q).toNat)
  case atStart => exact ⟨0, Nat.zero_le _, rfl, Lib.hid ⟨rfl, .inl ⟨rfl, rfl⟩⟩, Lib.hid (Below.refl _ _)⟩
  case round =>
    obtain ⟨i, hi, rfl, ho, hb⟩ := hrel
    by_cases hlt : i < M
    · have hltI : (i : Int) < (M : Int) := by omega
      have hil : i < ws.length := by rw [HWL.out]; exact hlt
      have hc1 : w2.cell? ⟨w1.heap.size, i, none⟩ = some (.int .i64 ws[i]) := by
        rw [O2.out.cellAt i (by omega), intsOf_get ws i _ (List.getElem?_eq_getElem hil)]
      have hc : wr.cell? ⟨w1.heap.size, i, none⟩ = some (.int .i64 ws[i]) := cell_on hb.out hc1
      have hv := HWV.out i ws[i] (List.getElem?_eq_getElem hil)
      obtain ⟨n, hn⟩ : ∃ n : Nat, ws[i] = (n : Int) := ⟨ws[i].toNat, by omega⟩
      rw [hn] at hc hv
      have hn16 : n < 65536 := by omega
      obtain ⟨N, hN⟩ : ∃ N, N = hexN n := ⟨_, rfl⟩
      have nt : ∀ v, Tabs v → Calls Tryd.prog 34 #[.int .i64 (n : Int), .int .i64 16] v fun e v' => e = .returned (.string (strOf N)) ∧ Below v.heap.size v v' := by
        intro v hv
        rw [hN]
        exact formatInt16 n hn16 v hv.de
      have NT := Lib.hid nt
      have E := Lib.hid (show (ws.take (i + 1)).map hexW = (ws.take i).map hexW ++ [N] by rw [take_snoc ws i hil, List.map_append, List.map_singleton, hN, hn]; rfl)
      clear hc1 hn hN nt hk
      go_wp2_with fail
      refine (NT.out _ (T2.out.on hb.out)).mono ?_
      rintro e w5 ⟨rfl, b5⟩
      have hlo := fun u (hu : u4.ownBlock = some u) => (ho.out.lt u hu).1
      have HLO := Lib.hid hlo
      have o5 := Lib.hid (own_below (own_below ho.out b5) (Joins.below_alloc1 w5 (.cells #[.string (strOf N)] 9)))
      have B5 := Lib.hid (hb.out.trans (b5.mono hb.out.size))
      have hz := hb.out.size
      have hz2 := b5.size
      clear hlo
      go_wp2_with (at_builtin; refine wpList_append_s rfl (.tmp 36) (.tmp 39) rfl w2.heap.size u4 i ((ws.take i).map hexW) rfl o5.out _ (some ⟨w5.heap.size, 0, none⟩) 1 1 [N] rfl rfl (RV.new w5 9 (strsOf [N])) (by omega) (by simp; omega) ?_; intro v3 w3 o3 g3)
      have R1 := Lib.hid (show w3.ownsRow w2.heap.size 9 1 v3 (i + 1) (strsOf ((ws.take (i + 1)).map hexW)) by rw [E.out]; exact o3)
      have R2 := Lib.hid (show Below w2.heap.size w2 w3 from (B5.out.alloc (by omega) (.cells #[.string (strOf N)] 9)).grown g3 (by simp; omega) HLO.out)
      go_wp2
      go_roundw
      case rel => exact ⟨i + 1, by omega, by go_num, R1, R2⟩
      case measure => simp [intOf]; omega
    · obtain rfl : i = M := by omega
      have hltI : ¬ (i : Int) < (i : Int) := by omega
      have e4 : (ws.take i).map hexW = ws.map hexW := by rw [List.take_of_length_le (by rw [HWL.out]; exact Nat.le_refl _)]
      have o5 := ho.out
      rw [e4] at o5
      have jt := Lib.hid (joinText 58 (ws.map hexW) u4 i w2.heap.size wr o5 (by rw [List.length_map, HWL.out]) (by
        have h1 := joinC_len 58 4 (ws.map hexW) (fun x hx => by
          obtain ⟨n, hn, rfl⟩ := List.mem_map.1 hx
          obtain ⟨j, hj⟩ := List.getElem?_of_mem hn
          exact hexW_len n (HWV.out j n hj).2)
        rw [List.length_map, HWL.out] at h1
        omega) (by omega))
      clear o5 e4
      go_wp2_with fail
      refine jt.out.mono ?_
      rintro e w6 ⟨rfl, b6⟩
      go_wp2
      go_ret
      exact ⟨rfl, bthen (B2.out.trans (hb.out.mono B2.out.size)) b6⟩

set_option maxRecDepth 100000 in
theorem implAddrText (x : Ad) (w : World) (ht : Tabs w) : Calls Tryd.prog 11 #[.agg #[.int .i64 x.k, .int .i64 x.a, .int .i64 x.b, .int .i64 x.c, .int .i64 x.d]] w (TextOut x w) := by
  unfold TextOut
  rw [← textK_eq]
  by_cases hk : x.k = 4
  · rw [show textK x = joinC 46 (x.bytes.map numB) by simp [textK, hk]]
    exact implText_four x hk w ht
  · rw [show textK x = joinC 58 ((wordsL x.bytes).map hexW) by simp [textK, hk]]
    exact implText_six x hk w ht
end Go.Proofs.YtckakpcjbndijabDoor
namespace Go.Proofs.YtckakpcjbndijabDoor
open Go.RowKit

/-- The text of a prefix. -/
def Pf.text (p : Pf) : List UInt8 := if p.ok then (if p = Pf.zero then [97, 110, 121] else p.base.text ++ 47 :: numText p.len) else []
set_option maxRecDepth 100000 in
theorem Ad.text_len (x : Ad) : x.text.length ≤ 80 := by
  unfold Ad.text
  split
  · split
    · have := len4t (put32 x.d) 4 (by simp [put32])
      rw [List.take_of_length_le (by simp [put32])] at this
      unfold text4
      omega
    · have h8 : (wordsL x.whole).length = 8 := by rw [wordsL_length, x.whole_length]
      have := len6t (wordsL x.whole) 8 (by omega) (fun n hn => by
        obtain ⟨j, hj⟩ := List.getElem?_of_mem hn
        exact (wordsL_le x.whole j n hj).2)
      rw [List.take_of_length_le (by omega)] at this
      unfold text6
      omega
  · simp
set_option maxRecDepth 100000 in
theorem numText_len (n : Int) (h0 : 0 ≤ n) (h1 : n ≤ 128) : (numText n).length ≤ 3 := by
  have h := dec_len 3 n.natAbs (by omega)
  unfold numText
  split
  · simp
  · rw [if_neg (by omega)]
    exact h
set_option maxRecDepth 100000 in
theorem has_bits' {p : Pf} (hp : p.ok = true) (hz : ¬ p = Pf.zero) : 0 ≤ p.len ∧ p.len ≤ p.base.bits := by
  simp only [Pf.ok, hz, decide_false, Bool.false_or, Bool.and_eq_true, decide_eq_true_eq] at hp
  exact hp.1.2
set_option maxRecDepth 100000 in
theorem Pf.ok_len {p : Pf} (h : p.ok = true) : 0 ≤ p.len ∧ p.len ≤ 128 := by
  by_cases hz : p = Pf.zero
  · subst hz; decide
  · have := has_bits' h hz
    have := bits_bd p.base
    omega
def PTextOut (p : Pf) (w : World) (e : Ending) (w' : World) : Prop := e = .returned (.string (strOf p.text)) ∧ Below w.heap.size w w'
set_option maxRecDepth 100000 in
theorem ptext_no {p : Pf} (h : p.ok = false) : p.text = [] := by simp [Pf.text, h]
set_option maxRecDepth 100000 in
theorem ptext_all {p : Pf} (h : p.ok = true) (hz : p = Pf.zero) : p.text = [97, 110, 121] := by unfold Pf.text; rw [h, if_pos rfl, if_pos hz]
set_option maxRecDepth 100000 in
theorem ptext_in {p : Pf} (h : p.ok = true) (hz : ¬ p = Pf.zero) : p.text = p.base.text ++ 47 :: numText p.len := by simp [Pf.text, h, hz]

set_option maxRecDepth 100000 in
set_option maxHeartbeats 400000 in
theorem specPText_no (p : Pf) (hp : p.ok = false) (w : World) : Calls Tryd.prog 15 #[.agg #[.int .i64 p.base.k, .int .i64 p.base.a, .int .i64 p.base.b, .int .i64 p.base.c, .int .i64 p.base.d, .int .i64 p.len]] w (PTextOut p w) := by
  have pk := specPrefixOk p
  rw [hp] at pk
  have PK := Lib.hid pk
  clear pk
  have E := Lib.hid (ptext_no hp)
  clear hp
  go_enter Tryd.func15, Tryd.ntmps15
  go_wp2_with fail
  refine (PK.out _).mono ?_
  rintro e w1 ⟨rfl, b1⟩
  go_wp2
  go_ret
  unfold PTextOut
  rw [E.out]
  exact ⟨rfl, bthen (Joins.below_alloc1 w _) b1⟩

set_option maxRecDepth 100000 in
set_option maxHeartbeats 400000 in
theorem specPText_all (p : Pf) (hp : p.ok = true) (hz : p = Pf.zero) (w : World) : Calls Tryd.prog 15 #[.agg #[.int .i64 p.base.k, .int .i64 p.base.a, .int .i64 p.base.b, .int .i64 p.base.c, .int .i64 p.base.d, .int .i64 p.len]] w (PTextOut p w) := by
  have pk := specPrefixOk p
  rw [hp] at pk
  have PK := Lib.hid pk
  clear pk
  have an := specAny p
  rw [decide_eq_true hz] at an
  have AN := Lib.hid an
  clear an
  have E := Lib.hid (ptext_all hp hz)
  clear hp hz
  go_enter Tryd.func15, Tryd.ntmps15
  go_wp2_with fail
  refine (PK.out _).mono ?_
  rintro e w1 ⟨rfl, b1⟩
  obtain ⟨c0, c1, c2, c3, c4, c5⟩ := pf_box b1
  go_wp2_with fail
  refine (AN.out _).mono ?_
  rintro e w2 ⟨rfl, b2⟩
  have b12 := bthen b1 b2
  clear c0 c1 c2 c3 c4 c5
  go_wp2
  go_ret
  unfold PTextOut
  rw [E.out]
  exact ⟨rfl, bthen (Joins.below_alloc1 w _) b12⟩

set_option maxRecDepth 100000 in
set_option maxHeartbeats 400000 in
theorem specPText_in (p : Pf) (hp : p.ok = true) (hz : ¬ p = Pf.zero) (w : World) : Calls Tryd.prog 15 #[.agg #[.int .i64 p.base.k, .int .i64 p.base.a, .int .i64 p.base.b, .int .i64 p.base.c, .int .i64 p.base.d, .int .i64 p.len]] w (PTextOut p w) := by
  have pk := specPrefixOk p
  rw [hp] at pk
  have PK := Lib.hid pk
  clear pk
  have an := specAny p
  rw [decide_eq_false hz] at an
  have AN := Lib.hid an
  clear an
  have E := Lib.hid (ptext_in hp hz)
  obtain ⟨h0, h1⟩ := p.ok_len hp
  have hNl := numText_len p.len h0 h1
  have hPl := p.base.text_len
  obtain ⟨P, hP⟩ : ∃ P, P = p.base.text := ⟨_, rfl⟩
  obtain ⟨N, hN⟩ : ∃ N, N = numText p.len := ⟨_, rfl⟩
  have at_ : ∀ v, Calls Tryd.prog 9 #[.agg #[.int .i64 p.base.k, .int .i64 p.base.a, .int .i64 p.base.b, .int .i64 p.base.c, .int .i64 p.base.d]] v fun e v' => e = .returned (.string (strOf P)) ∧ Below v.heap.size v v' := by
    intro v
    have := specAddrText p.base v
    unfold TextOut at this
    rwa [← hP] at this
  have nt : ∀ v, Calls Tryd.prog 29 #[.int .i64 p.len] v fun e v' => e = .returned (.string (strOf N)) ∧ Below v.heap.size v v' := by
    intro v
    have := specNumText p.len v (by omega)
    rwa [← hN] at this
  rw [← hP, ← hN] at E
  rw [← hP] at hPl
  rw [← hN] at hNl
  have AT := Lib.hid at_
  have NT := Lib.hid nt
  have hz1 : ¬ 9223372036854775807 < (strOf P).size + 1 := by rw [strOf_size]; omega
  have hz2 : ¬ 9223372036854775807 < (strOf P).size + 1 + (strOf N).size := by rw [strOf_size, strOf_size]; omega
  clear hp hz at_ nt hP hN h0 h1
  go_enter Tryd.func15, Tryd.ntmps15
  go_wp2_with fail
  refine (PK.out _).mono ?_
  rintro e w1 ⟨rfl, b1⟩
  obtain ⟨c0, c1, c2, c3, c4, c5⟩ := pf_box b1
  go_wp2_with fail
  refine (AN.out _).mono ?_
  rintro e w2 ⟨rfl, b2⟩
  have b12 := bthen b1 b2
  clear c0 c1 c2 c3 c4 c5
  obtain ⟨c0, c1, c2, c3, c4, c5⟩ := pf_box b12
  have k0 := cell_regrown c0
  have k1 := cell_regrown c1
  have k2 := cell_regrown c2
  have k3 := cell_regrown c3
  have k4 := cell_regrown c4
  have k5 := cell_regrown c5
  go_wp2_with fail
  refine wp_region_quiet_below (by kernel_rfl) (by kernel_rfl) ?_
  repeat (go_big_quiet_step (first | (go_at_call 9; exact Calls.regrown_of (AT.out _)) | (go_at_call 29; exact Calls.regrown_of (NT.out _))))
  refine wpQuiet_nil ?_
  intro w3 hw3
  obtain ⟨⟨dq, osq⟩, hw3⟩ := hw3
  have b3 := below_regrown w2 dq osq
  rw [← hw3] at b3
  clear hw3 k0 k1 k2 k3 k4 k5 c0 c1 c2 c3 c4 c5
  go_wp2
  go_ret
  unfold PTextOut
  rw [E.out, show P ++ 47 :: N = (P ++ [47]) ++ N by simp, strOf_append, strOf_append]
  exact ⟨rfl, bthen (bthen (Joins.below_alloc1 w _) b12) b3⟩

set_option maxRecDepth 100000 in
theorem specPrefixText (p : Pf) (w : World) : Calls Tryd.prog 15 #[.agg #[.int .i64 p.base.k, .int .i64 p.base.a, .int .i64 p.base.b, .int .i64 p.base.c, .int .i64 p.base.d, .int .i64 p.len]] w (PTextOut p w) := by
  cases hp : p.ok
  · exact specPText_no p hp w
  · by_cases hz : p = Pf.zero
    · exact specPText_all p hp hz w
    · exact specPText_in p hp hz w

set_option maxRecDepth 100000 in
set_option maxHeartbeats 400000 in
theorem implPText_no (p : Pf) (hp : p.ok = false) (w : World) : Calls Tryd.prog 17 #[.agg #[.int .i64 p.base.k, .int .i64 p.base.a, .int .i64 p.base.b, .int .i64 p.base.c, .int .i64 p.base.d, .int .i64 p.len]] w (PTextOut p w) := by
  have pk := implPrefixOk p
  rw [hp] at pk
  have PK := Lib.hid pk
  clear pk
  have E := Lib.hid (ptext_no hp)
  clear hp
  go_enter Tryd.func17, Tryd.ntmps17
  go_wp2_with fail
  refine (PK.out _).mono ?_
  rintro e w1 ⟨rfl, b1⟩
  go_wp2
  go_ret
  unfold PTextOut
  rw [E.out]
  exact ⟨rfl, bthen (Joins.below_alloc1 w _) b1⟩

set_option maxRecDepth 100000 in
set_option maxHeartbeats 400000 in
theorem implPText_all (p : Pf) (hp : p.ok = true) (hz : p = Pf.zero) (w : World) : Calls Tryd.prog 17 #[.agg #[.int .i64 p.base.k, .int .i64 p.base.a, .int .i64 p.base.b, .int .i64 p.base.c, .int .i64 p.base.d, .int .i64 p.len]] w (PTextOut p w) := by
  have pk := implPrefixOk p
  rw [hp] at pk
  have PK := Lib.hid pk
  clear pk
  have hq := eq_pf p
  rw [decide_eq_true hz] at hq
  have E := Lib.hid (ptext_all hp hz)
  clear hp hz
  go_enter Tryd.func17, Tryd.ntmps17
  go_wp2_with fail
  refine (PK.out _).mono ?_
  rintro e w1 ⟨rfl, b1⟩
  have b12 := b1
  obtain ⟨c0, c1, c2, c3, c4, c5⟩ := pf_box b12
  go_wp2
  go_ret
  unfold PTextOut
  rw [E.out]
  exact ⟨rfl, bthen (Joins.below_alloc1 w _) b12⟩

set_option maxRecDepth 100000 in
set_option maxHeartbeats 400000 in
theorem implPText_in (p : Pf) (hp : p.ok = true) (hz : ¬ p = Pf.zero) (w : World) (ht : Tabs w) : Calls Tryd.prog 17 #[.agg #[.int .i64 p.base.k, .int .i64 p.base.a, .int .i64 p.base.b, .int .i64 p.base.c, .int .i64 p.base.d, .int .i64 p.len]] w (PTextOut p w) := by
  have pk := implPrefixOk p
  rw [hp] at pk
  have PK := Lib.hid pk
  clear pk
  have hq := eq_pf p
  rw [decide_eq_false hz] at hq
  have E := Lib.hid (ptext_in hp hz)
  obtain ⟨h0, h1⟩ := p.ok_len hp
  have hNl := numText_len p.len h0 h1
  have hPl := p.base.text_len
  obtain ⟨P, hP⟩ : ∃ P, P = p.base.text := ⟨_, rfl⟩
  obtain ⟨N, hN⟩ : ∃ N, N = numText p.len := ⟨_, rfl⟩
  have at_ : ∀ v, Tabs v → Calls Tryd.prog 11 #[.agg #[.int .i64 p.base.k, .int .i64 p.base.a, .int .i64 p.base.b, .int .i64 p.base.c, .int .i64 p.base.d]] v fun e v' => e = .returned (.string (strOf P)) ∧ Below v.heap.size v v' := by
    intro v hv
    have := implAddrText p.base v hv
    unfold TextOut at this
    rwa [← hP] at this
  have nt : ∀ v, Tabs v → Calls Tryd.prog 31 #[.int .i64 p.len] v fun e v' => e = .returned (.string (strOf N)) ∧ Below v.heap.size v v' := by
    intro v hv
    have := implNumText p.len v (by omega) (by omega) hv.ten
    rwa [← hN] at this
  have HT := Lib.hid ht
  clear ht
  rw [← hP, ← hN] at E
  rw [← hP] at hPl
  rw [← hN] at hNl
  have AT := Lib.hid at_
  have NT := Lib.hid nt
  have hz1 : ¬ 9223372036854775807 < (strOf P).size + 1 := by rw [strOf_size]; omega
  have hz2 : ¬ 9223372036854775807 < (strOf P).size + 1 + (strOf N).size := by rw [strOf_size, strOf_size]; omega
  clear hp hz at_ nt hP hN h0 h1
  go_enter Tryd.func17, Tryd.ntmps17
  go_wp2_with fail
  refine (PK.out _).mono ?_
  rintro e w1 ⟨rfl, b1⟩
  have b12 := b1
  have T2 := Lib.hid (HT.out.on (bthen (Joins.below_alloc1 w _) b12))
  obtain ⟨c0, c1, c2, c3, c4, c5⟩ := pf_box b12
  have k0 := cell_regrown c0
  have k1 := cell_regrown c1
  have k2 := cell_regrown c2
  have k3 := cell_regrown c3
  have k4 := cell_regrown c4
  have k5 := cell_regrown c5
  go_wp2_with fail
  refine wp_region_quiet_below (by kernel_rfl) (by kernel_rfl) ?_
  repeat (go_big_quiet_step (first | (go_at_call 11; exact Calls.regrown_of (AT.out _ (T2.out.on (below_regrown w1 _ _)))) | (go_at_call 31; exact Calls.regrown_of (NT.out _ (T2.out.on (below_regrown w1 _ _))))))
  refine wpQuiet_nil ?_
  intro w3 hw3
  obtain ⟨⟨dq, osq⟩, hw3⟩ := hw3
  have b3 := below_regrown w1 dq osq
  rw [← hw3] at b3
  clear hw3 k0 k1 k2 k3 k4 k5 c0 c1 c2 c3 c4 c5
  go_wp2
  go_ret
  unfold PTextOut
  rw [E.out, show P ++ 47 :: N = (P ++ [47]) ++ N by simp, strOf_append, strOf_append]
  exact ⟨rfl, bthen (bthen (Joins.below_alloc1 w _) b12) b3⟩

set_option maxRecDepth 100000 in
theorem implPrefixText (p : Pf) (w : World) (ht : Tabs w) : Calls Tryd.prog 17 #[.agg #[.int .i64 p.base.k, .int .i64 p.base.a, .int .i64 p.base.b, .int .i64 p.base.c, .int .i64 p.base.d, .int .i64 p.len]] w (PTextOut p w) := by
  cases hp : p.ok
  · exact implPText_no p hp w
  · by_cases hz : p = Pf.zero
    · exact implPText_all p hp hz w
    · exact implPText_in p hp hz w ht

end Go.Proofs.YtckakpcjbndijabDoor
namespace Go.Proofs.YtckakpcjbndijabDoor
open Go.RowKit

/-- What an address's text and a length's text are read as. -/
def pfOf (a r : List UInt8) : Pf := ⟨(rdA a).getD Ad.zero, numR r⟩
def rdQ (a r : List UInt8) : Option Pf := if (rdA a).isSome = true ∧ okNum r = true ∧ (pfOf a r).ok = true then some (pfOf a r) else none
def cutA (s : List UInt8) : List UInt8 := (Lib.cut s [47]).1
def cutR (s : List UInt8) : List UInt8 := (Lib.cut s [47]).2.1
/-- What a prefix's text is read as. -/
def rdP (s : List UInt8) : Option Pf := if s = [97, 110, 121] then some Pf.zero else rdQ (cutA s) (cutR s)
set_option maxRecDepth 100000 in
theorem rdQ_no1 {a r : List UInt8} (h : (rdA a).isSome = false) : rdQ a r = none := by simp [rdQ, h]
set_option maxRecDepth 100000 in
theorem rdQ_no2 {a r : List UInt8} (h : okNum r = false) : rdQ a r = none := by simp [rdQ, h]
set_option maxRecDepth 100000 in
theorem rdQ_no3 {a r : List UInt8} (h : (pfOf a r).ok = false) : rdQ a r = none := by simp [rdQ, h]
set_option maxRecDepth 100000 in
theorem rdQ_yes {a r : List UInt8} (h1 : (rdA a).isSome = true) (h2 : okNum r = true) (h3 : (pfOf a r).ok = true) : rdQ a r = some (pfOf a r) := by simp [rdQ, h1, h2, h3]
set_option maxRecDepth 100000 in
theorem cut_cases (s : List UInt8) : (47 ∉ s ∧ cutA s = s ∧ cutR s = []) ∨ ∃ a r, s = a ++ 47 :: r ∧ 47 ∉ a ∧ cutA s = a ∧ cutR s = r := by
  rcases index_one 47 s with ⟨h1, h2⟩ | ⟨a, r, rfl, h2, h3⟩
  · exact .inl ⟨h2, by simp [cutA, Lib.cut, h1], by simp [cutR, Lib.cut, h1]⟩
  · refine .inr ⟨a, r, rfl, h2, ?_, ?_⟩
    · simp [cutA, Lib.cut, h3]
    · simp [cutR, Lib.cut, h3]
set_option maxRecDepth 100000 in
theorem okNum_dig_all {r : List UInt8} (h : okNum r = true) : r.all isDig = true := by
  simp only [okNum, Bool.and_eq_true] at h
  exact h.1.2
set_option maxRecDepth 100000 in
theorem okNum_no47 {r : List UInt8} (h : (47 : UInt8) ∈ r) : okNum r = false := by
  cases e : okNum r
  · rfl
  · have := List.all_eq_true.1 (okNum_dig_all e) 47 h
    simp [isDig] at this
set_option maxRecDepth 100000 in
theorem okNum_nil : okNum [] = false := rfl
set_option maxRecDepth 100000 in
theorem rdQ_none_of {a r : List UInt8} (h : ∀ x, rdA a = some x → okNum r = true → (pfOf a r).ok = true → False) : rdQ a r = none := by
  cases e1 : rdA a with
  | none => exact rdQ_no1 (by rw [e1]; rfl)
  | some x =>
    cases e2 : okNum r
    · exact rdQ_no2 e2
    · cases e3 : (pfOf a r).ok
      · exact rdQ_no3 e3
      · exact (h x e1 e2 e3).elim
set_option maxRecDepth 100000 in
theorem rdA_len {a : List UInt8} {x : Ad} (h : rdA a = some x) : a.length ≤ 39 := by
  by_cases hl : 39 < a.length
  · rw [read_long hl] at h
    cases h
  · omega
set_option maxRecDepth 100000 in
theorem num_short {r : List UInt8} (h : okNum r = true) (hv : numR r ≤ 128) : r.length ≤ 3 := by
  have e : numR r = (val r : Int) := by rw [numR, h]; rfl
  rw [e] at hv
  simp only [okNum, Bool.and_eq_true, decide_eq_true_eq, Bool.or_eq_true, ne_eq] at h
  have e2 := numText_val r h.1.2 h.1.1.1 h.2
  have := numText_len (val r : Int) (by omega) hv
  rw [e2] at this
  exact this
set_option maxRecDepth 100000 in
theorem rdP_any {s : List UInt8} (h : s = [97, 110, 121]) : rdP s = some Pf.zero := if_pos h
set_option maxRecDepth 100000 in
theorem rdP_else {s : List UInt8} (h : ¬ s = [97, 110, 121]) : rdP s = rdQ (cutA s) (cutR s) := if_neg h
set_option maxRecDepth 100000 in
theorem rdP_long {s : List UInt8} (h : ¬ s = [97, 110, 121]) (hl : 43 < s.length) : rdP s = none := by
  rw [rdP_else h]
  refine rdQ_none_of fun x e1 e2 e3 => ?_
  have h1 := rdA_len e1
  have h2 := (Pf.ok_len e3).2
  have h3 := num_short e2 h2
  rcases cut_cases s with ⟨_, _, hr⟩ | ⟨a, r, rfl, _, ha, hr⟩
  · rw [hr, okNum_nil] at e2
    cases e2
  · rw [ha] at h1
    rw [hr] at h3
    simp at hl
    omega
set_option maxRecDepth 100000 in
theorem rdP_parts {s : List UInt8} (h : ¬ s = [97, 110, 121]) (hl : ¬ (splitC 47 s).length = 2) : rdP s = none := by
  rw [rdP_else h]
  rcases cut_cases s with ⟨_, _, hr⟩ | ⟨a, r, rfl, h2, ha, hr⟩
  · rw [hr]
    exact rdQ_no2 okNum_nil
  · rw [hr]
    refine rdQ_no2 (okNum_no47 ?_)
    rw [split_cut 47 r a h2] at hl
    by_cases hm : (47 : UInt8) ∈ r
    · exact hm
    · rw [split_one 47 r hm] at hl
      exact absurd rfl hl
set_option maxRecDepth 100000 in
theorem rdP_two {s : List UInt8} (hl : (splitC 47 s).length = 2) : splitC 47 s = [cutA s, cutR s] := by
  rcases cut_cases s with ⟨h2, _, _⟩ | ⟨a, r, rfl, h2, ha, hr⟩
  · rw [split_one 47 s h2] at hl
    cases hl
  · rw [split_cut 47 r a h2] at hl
    rw [split_cut 47 r a h2, ha, hr]
    by_cases hm : (47 : UInt8) ∈ r
    · obtain ⟨a2, r2, e, h3⟩ : ∃ a2 r2, r = a2 ++ 47 :: r2 ∧ 47 ∉ a2 := by
        rcases index_one 47 r with ⟨_, hn⟩ | ⟨a2, r2, e, h3, _⟩
        · exact absurd hm hn
        · exact ⟨a2, r2, e, h3⟩
      rw [e, split_cut 47 r2 a2 h3] at hl
      have := split_len_pos 47 r2
      simp only [List.length_cons] at hl
      omega
    · rw [split_one 47 r hm]
set_option maxRecDepth 100000 in
theorem cut_size (s : List UInt8) : (cutA s).length ≤ s.length ∧ (cutR s).length ≤ s.length := by
  rcases cut_cases s with ⟨_, ha, hr⟩ | ⟨a, r, rfl, _, ha, hr⟩
  · rw [ha, hr]; simp
  · rw [ha, hr]; simp; omega

def PReadOut (r : Option Pf) (w : World) (e : Ending) (w' : World) : Prop := e = .returned (.tuple #[.agg #[.int .i64 (r.getD Pf.zero).base.k, .int .i64 (r.getD Pf.zero).base.a, .int .i64 (r.getD Pf.zero).base.b, .int .i64 (r.getD Pf.zero).base.c, .int .i64 (r.getD Pf.zero).base.d, .int .i64 (r.getD Pf.zero).len], .bool r.isSome]) ∧ Below w.heap.size w w'
set_option maxRecDepth 100000 in
theorem preadOut_no {r : Option Pf} {w w' : World} (h : r = none) (hb : Below w.heap.size w w') : PReadOut r w (.returned (.tuple #[.agg #[.int .i64 0, .int .i64 0, .int .i64 0, .int .i64 0, .int .i64 0, .int .i64 0], .bool false])) w' := by
  subst h
  exact ⟨rfl, hb⟩
set_option maxRecDepth 100000 in
theorem preadOut_yes {r : Option Pf} {y : Pf} {w w' : World} (h : r = some y) (hb : Below w.heap.size w w') : PReadOut r w (.returned (.tuple #[.agg #[.int .i64 y.base.k, .int .i64 y.base.a, .int .i64 y.base.b, .int .i64 y.base.c, .int .i64 y.base.d, .int .i64 y.len], .bool true])) w' := by
  subst h
  exact ⟨rfl, hb⟩
set_option maxRecDepth 100000 in
theorem preadOut_any {r : Option Pf} {w w' : World} (h : r = some Pf.zero) (hb : Below w.heap.size w w') : PReadOut r w (.returned (.tuple #[.agg #[.int .i64 0, .int .i64 0, .int .i64 0, .int .i64 0, .int .i64 0, .int .i64 0], .bool true])) w' := by
  subst h
  exact ⟨rfl, hb⟩

set_option maxRecDepth 100000 in
/-- The cells of a block of six that may be written. -/
theorem row6 {w : World} {g : Nat} {v0 v1 v2 v3 v4 v5 : Value} {t : TypeId} (h : w.heap[g]? = some (.cells #[v0, v1, v2, v3, v4, v5] t (0, 0))) :
    (w.cell? ⟨g, 0, none⟩ = some v0 ∧ w.cell? ⟨g, 1, none⟩ = some v1 ∧ w.cell? ⟨g, 2, none⟩ = some v2 ∧ w.cell? ⟨g, 3, none⟩ = some v3 ∧ w.cell? ⟨g, 4, none⟩ = some v4 ∧ w.cell? ⟨g, 5, none⟩ = some v5) ∧
      (w.frozen? ⟨g, 0, none⟩ = false ∧ w.frozen? ⟨g, 1, none⟩ = false ∧ w.frozen? ⟨g, 2, none⟩ = false ∧ w.frozen? ⟨g, 3, none⟩ = false ∧ w.frozen? ⟨g, 4, none⟩ = false ∧ w.frozen? ⟨g, 5, none⟩ = false) :=
  ⟨⟨cell_of_row w g 0 _ _ _ h, cell_of_row w g 1 _ _ _ h, cell_of_row w g 2 _ _ _ h, cell_of_row w g 3 _ _ _ h, cell_of_row w g 4 _ _ _ h, cell_of_row w g 5 _ _ _ h⟩,
    ⟨frozen_of_row w g 0 _ _ h, frozen_of_row w g 1 _ _ h, frozen_of_row w g 2 _ _ h, frozen_of_row w g 3 _ _ h, frozen_of_row w g 4 _ _ h, frozen_of_row w g 5 _ _ h⟩⟩
set_option maxRecDepth 100000 in
theorem set6 {w : World} {g : Nat} {a0 a1 a2 a3 a4 a5 : Value} {t : TypeId} (v0 v1 v2 v3 v4 v5 : Value) (h : w.heap[g]? = some (.cells #[a0, a1, a2, a3, a4, a5] t (0, 0))) :
    ((((((w.setCell ⟨g, 0, none⟩ v0).setCell ⟨g, 1, none⟩ v1).setCell ⟨g, 2, none⟩ v2).setCell ⟨g, 3, none⟩ v3).setCell ⟨g, 4, none⟩ v4).setCell ⟨g, 5, none⟩ v5).heap[g]? = some (.cells #[v0, v1, v2, v3, v4, v5] t (0, 0)) :=
  heap_setCell_same _ g 5 #[v0, v1, v2, v3, v4, a5] t v5 (heap_setCell_same _ g 4 #[v0, v1, v2, v3, a4, a5] t v4 (heap_setCell_same _ g 3 #[v0, v1, v2, a3, a4, a5] t v3 (heap_setCell_same _ g 2 #[v0, v1, a2, a3, a4, a5] t v2 (heap_setCell_same _ g 1 #[v0, a1, a2, a3, a4, a5] t v1 (heap_setCell_same _ g 0 _ t v0 h)))))
set_option maxRecDepth 100000 in
theorem below6 {w a : World} {g : Nat} {v0 v1 v2 v3 v4 v5 : Value} (h : Below w.heap.size w a) (hg : w.heap.size ≤ g) : Below w.heap.size w ((((((a.setCell ⟨g, 0, none⟩ v0).setCell ⟨g, 1, none⟩ v1).setCell ⟨g, 2, none⟩ v2).setCell ⟨g, 3, none⟩ v3).setCell ⟨g, 4, none⟩ v4).setCell ⟨g, 5, none⟩ v5) :=
  (((((h.setCell (p := ⟨g, 0, none⟩) hg _).setCell (p := ⟨g, 1, none⟩) hg _).setCell (p := ⟨g, 2, none⟩) hg _).setCell (p := ⟨g, 3, none⟩) hg _).setCell (p := ⟨g, 4, none⟩) hg _).setCell (p := ⟨g, 5, none⟩) hg _
set_option maxRecDepth 100000 in
theorem info_pfx : (Tryd.prog.info? 36).map (·.size) = some 6 := by kernel_rfl
set_option maxRecDepth 100000 in
theorem cutCall (s : ByteArray) (m : Int) (w : World) (hs : s.size ≤ 1048576) (hm : w.cell? ⟨1, 0, none⟩ = some (.int .i64 m)) : Calls Tryd.prog 45 #[.string s, .string ⟨#[47]⟩] w fun e w' => ∃ b, e = .returned (.tuple #[.string (strOf (cutA s.data.toList)), .string (strOf (cutR s.data.toList)), .bool b]) ∧ Below w.heap.size w w' := by
  refine (Tryd.strings_Cut s ⟨#[47]⟩ m w (by omega) hm).mono ?_
  rintro e w' ⟨rfl, n, rfl⟩
  exact ⟨_, rfl, below_drewN (Below.refl _ _) _⟩
end Go.Proofs.YtckakpcjbndijabDoor
