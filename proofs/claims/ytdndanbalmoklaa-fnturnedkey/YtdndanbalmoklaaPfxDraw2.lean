/-
  The model's draws of prefixes whose parts may be wrong.
-/
import Derived.Test.YtdndanbalmoklaaPfxDraw
namespace Go.Proofs.Ytdndanbalmoklaa
set_option maxRecDepth 100000
open Go.RowKit

theorem s_fldBase {o : Oper} {a : Act} {w : World} {K : Act → World → Prop} {Q : Exit → Act → World → Prop} (x : Operand) (b : Nat) (ho : o.op = .fieldAddr 31 x 0) (hx : a.eval x = .pointer (some ⟨b, 0, none⟩)) (hK : K (a.put o.dst (.pointer (some ⟨b, 0, none⟩))) w) : o.wp Try.prog a w K Q := by
  unfold Oper.wp execOp
  simp only [ho, hx]
  go_simp
  exact hK

set_option maxHeartbeats 1000000 in
theorem badPrefixC (w : World) (g : Nat) (A : Option Addr) (c : Nat) (bs : List UInt8) (t : Nat) (hc : Cur w g A c bs t) (ht : t ≤ 700000000000) :
    Calls Try.prog 138 #[.pointer (some ⟨g, 0, none⟩)] w (PfDrawn w g A c bs (t + 240)) := by
  have hgw := hc.lt
  have HC := Lib.hid (fun o : Obj => hc.below (Joins.below_alloc1 w o))
  have HR := Lib.hid (Go.heap_alloc_last w (.cells #[.int .i64 0, .int .i64 0, .int .i64 0, .int .i64 0, .int .i64 0, .int .i64 0] 31))
  have HG := Lib.hid (only_new (grown_refl w (some g)) (.cells #[.int .i64 0, .int .i64 0, .int .i64 0, .int .i64 0, .int .i64 0, .int .i64 0] 31))
  have hrg : w.heap.size ≠ g := by omega
  go_enter Try.func138, Try.ntmps138
  go_wp2_with fail
  refine (kindC _ g A c bs t (HC.out _) (by omega)).mono ?_
  rintro e w1 ⟨k, rfl, hc1, hg1⟩
  have HG1 := Lib.hid (grownBy_trans HG.out hg1)
  have HR1 := Lib.hid (row_kept hg1 hrg HR.out)
  clear hg1
  go_wp2_with fail
  refine (prefixC _ g A c bs (t + 1) k hc1 (by omega)).mono ?_
  rintro e w2 ⟨p, t2, rfl, ht2, hc2, hg2⟩
  have HG2 := Lib.hid (grownBy_trans HG1.out hg2)
  have HR2 := Lib.hid (row_kept hg2 hrg HR1.out)
  have hz2 : w.heap.size < w2.heap.size := row_lt HR2.out
  have hg2l := hc2.lt
  have HC2 := Lib.hid (fun o : Obj => hc2.below (Joins.below_alloc1 w2 o))
  have hbg : w2.heap.size ≠ g := by omega
  have hrb : w.heap.size ≠ w2.heap.size := by omega
  clear hg2 hc1 hc2
  go_wp2_with fail
  refine (pickC _ g A c bs t2 6 (by omega) (by omega) (HC2.out _) (by omega)).mono ?_
  rintro e w3 ⟨y, rfl, y0, y1, hc3, hg3⟩
  have HG3 := Lib.hid (grownBy_trans (only_new HG2.out _) hg3)
  have HR3 := Lib.hid (row_kept hg3 hrg (row_on (Joins.below_alloc1 w2 _) (row_lt HR2.out) HR2.out))
  have HB3 := Lib.hid (row_kept hg3 hbg (Go.heap_alloc_last w2 (.cells #[.int .i64 p.base.k, .int .i64 p.base.a, .int .i64 p.base.b, .int .i64 p.base.c, .int .i64 p.base.d, .int .i64 p.len] 31)))
  clear hg3
  by_cases h0 : y = 0
  · subst h0
    go_wp2_with fail
    refine (rawC _ g A c bs _ hc3 (by omega)).mono ?_
    rintro e w4 ⟨z, rfl, _, hc4, hg4⟩
    have B4 := row_kept hg4 hbg HB3.out
    have R4 := row_kept hg4 hrg HR3.out
    have HG4 := Lib.hid (grownBy_trans HG3.out hg4)
    have B5 := Lib.hid (heap_setCell_same w4 w2.heap.size 5 _ _ (.int .i64 z) B4)
    have R5 := Lib.hid ((heap_setCell_other w4 ⟨w2.heap.size, 5, none⟩ w.heap.size (.int .i64 z) hrb).trans R4)
    obtain ⟨⟨c0, c1, c2, c3, c4, c5⟩, f0, f1, f2, f3, f4, f5⟩ := row6d B4
    have HG5 := Lib.hid (grown_other HG4.out (grownBy_set w4 w2.heap.size 5 (.int .i64 z)) (fun u hu => by cases hu; omega))
    have HC5 := Lib.hid (hc4.grownBy (grownBy_set w4 w2.heap.size 5 (.int .i64 z)) (fun u hu => by cases hu; omega))
    obtain ⟨⟨d0, d1, d2, d3, d4, d5⟩, k0, k1, k2, k3, k4, k5⟩ := row6d (g := w2.heap.size) B5.out
    obtain ⟨⟨r0, r1, r2, r3, r4, r5⟩, q0, q1, q2, q3, q4, q5⟩ := row6d R5.out
    clear B4 R4 hg4 hc4 hc3
    go_wp2
    (try simp only [Exit.inBlock, Exit.then])
    refine bodyPost_ret (v := .agg #[.int .i64 (Pf.mk p.base z).base.k, .int .i64 (Pf.mk p.base z).base.a, .int .i64 (Pf.mk p.base z).base.b, .int .i64 (Pf.mk p.base z).base.c, .int .i64 (Pf.mk p.base z).base.d, .int .i64 (Pf.mk p.base z).len]) ?_ rfl ⟨⟨p.base, z⟩, _, rfl, by omega, cur6 HC5.out (by omega), grown6 HG5.out (Nat.le_refl _)⟩
    refine res_cell Try.results138 _ _ _ w.heap.size _ ?_ (run_loadVar_row _ _ 31 31 _ (0, 0) _ (set6d _ _ _ _ _ _ R5.out) Try.underlying31 rfl info_pfxd)
    rfl
  · by_cases h1 : y = 1
    · subst h1
      go_wp2_with fail
      refine (badAddrC _ g A c bs _ hc3 (by omega)).mono ?_
      rintro e w4 ⟨x, t4, rfl, ht4, hc4, hg4⟩
      have B4 := row_kept hg4 hbg HB3.out
      have R4 := row_kept hg4 hrg HR3.out
      have HG4 := Lib.hid (grownBy_trans HG3.out hg4)
      have HB4 := Lib.hid B4
      have HC4 := Lib.hid hc4
      obtain ⟨⟨c0, c1, c2, c3, c4, c5⟩, f0, f1, f2, f3, f4, f5⟩ := row6d B4
      have HR4 := Lib.hid R4
      clear B4 R4 hg4 hc4 hc3
      rename_i Ka ha Kb hb
      refine hb _ _ ?_
      clear hb c0 c1 c2 c3 c4 c5 f0 f1 f2 f3 f4 f5
      refine wpList_plain rfl fun K hK => ?_
      refine s_fldBase _ w2.heap.size rfl rfl (hK _ _ ?_)
      clear hK K
      refine wpList_store_s rfl rfl (.tmp 19) (.tmp 18) rfl w2.heap.size x p rfl rfl HB4.out ?_
      intro w5 hw5
      have hB5 := set5of6 (.int .i64 x.k) (.int .i64 x.a) (.int .i64 x.b) (.int .i64 x.c) (.int .i64 x.d) HB4.out
      rw [← hw5.out] at hB5
      have hR5 := row_past5 (g := w2.heap.size) (.int .i64 x.k) (.int .i64 x.a) (.int .i64 x.b) (.int .i64 x.c) (.int .i64 x.d) hrb HR4.out
      rw [← hw5.out] at hR5
      have hG5 := grown5 (r := w2.heap.size) (v0 := .int .i64 x.k) (v1 := .int .i64 x.a) (v2 := .int .i64 x.b) (v3 := .int .i64 x.c) (v4 := .int .i64 x.d) HG4.out (by omega)
      rw [← hw5.out] at hG5
      have hC5 := cur5 (r := w2.heap.size) (v0 := .int .i64 x.k) (v1 := .int .i64 x.a) (v2 := .int .i64 x.b) (v3 := .int .i64 x.c) (v4 := .int .i64 x.d) HC4.out (by omega)
      rw [← hw5.out] at hC5
      have HB5 := Lib.hid hB5
      have HR5 := Lib.hid hR5
      have HG5 := Lib.hid hG5
      have HC5 := Lib.hid hC5
      clear hB5 hR5 hG5 hC5 hw5
      obtain ⟨⟨d0, d1, d2, d3, d4, d5⟩, k0, k1, k2, k3, k4, k5⟩ := row6d HB5.out
      obtain ⟨⟨r0, r1, r2, r3, r4, r5⟩, q0, q1, q2, q3, q4, q5⟩ := row6d HR5.out
      go_wp2
      (try simp only [Exit.inBlock, Exit.then])
      refine bodyPost_ret (v := .agg #[.int .i64 x.k, .int .i64 x.a, .int .i64 x.b, .int .i64 x.c, .int .i64 x.d, .int .i64 p.len]) ?_ rfl ⟨⟨x, p.len⟩, _, rfl, by omega, cur6 HC5.out (by omega), grown6 HG5.out (Nat.le_refl _)⟩
      refine res_cell Try.results138 _ _ _ w.heap.size _ ?_ (run_loadVar_row _ _ 31 31 _ (0, 0) _ (set6d _ _ _ _ _ _ HR5.out) Try.underlying31 rfl info_pfxd)
      rfl
    · by_cases h2 : y = 2
      · subst h2
        obtain ⟨b, hb⟩ : ∃ b, w2.heap.size = b := ⟨_, rfl⟩
        obtain ⟨r, hr⟩ : ∃ r, w.heap.size = r := ⟨_, rfl⟩
        rw [hb] at hbg hrb hz2 HB3
        rw [hr] at hrg hrb hz2 HR3
        have hgb : g < b := by omega
        have hgr : g < r := by omega
        have hWb : w.heap.size ≤ b := by omega
        have hWr : w.heap.size ≤ r := by omega
        have I0 : Hid (InRegP w g b r A c bs (t2 + 1) p 0 w3.drew) := Lib.hid ⟨⟨t2 + 1, by omega, hc3.drewN 1⟩, ⟨p.len, HB3.out⟩, HR3.out, ⟨HG3.out.os, HG3.out.tape, HG3.out.output, HG3.out.size, HG3.out.block⟩⟩
        have HBb := Lib.hid hb
        have HRr := Lib.hid hr
        clear hc3 hb hr
        go_wp2
        rw [HBb.out, HRr.out]
        refine wp_region_kept (by kernel_rfl) (fun j _ v => GB g b j v) [0, 2, 3] (InRegP w g b r A c bs (t2 + 1) p) (fun _ _ => True) 30 (by kernel_rfl) rfl I0.out (fun j v v' u h hu => hu) ?_ ?_
        · intro j o ho k a' v K hx hn hk8 hI hK
          have hp0 : (.pointer (some ⟨g, 0, none⟩) : Value) = .pointer (some ⟨g, 0, none⟩) := rfl
          have hp3 : (.pointer (some ⟨b, 0, none⟩) : Value) = .pointer (some ⟨b, 0, none⟩) := rfl
          have hk9 : k < 8 := hk8
          match j, ho with
          | 0, ho =>
            obtain rfl := Option.some.inj ho
            exact s_fldLen _ b rfl (out_of hx 3 rfl hp3) (hK _ _ rfl trivial hI.more)
          | 1, ho =>
            obtain rfl := Option.some.inj ho
            have e1 : a'.eval (.tmp 22) = .pointer (some ⟨b, 5, none⟩) := (need_of (Γ := fun j _ v => GB g b j v) (w := v) hn 0 22 (by kernel_rfl) :)
            obtain ⟨_, ⟨l, hl⟩, _⟩ := id hI
            exact s_load 22 b 5 _ rfl e1 (row6d hl).1.2.2.2.2.2 (hK _ _ ⟨l, rfl⟩ trivial hI.more)
          | 2, ho =>
            obtain rfl := Option.some.inj ho
            exact s_move 0 _ rfl (out_of hx 0 rfl hp0) (hK _ _ rfl trivial hI.more)
          | 3, ho =>
            obtain rfl := Option.some.inj ho
            have e1 : a'.eval (.tmp 24) = .pointer (some ⟨g, 0, none⟩) := (need_of (Γ := fun j _ v => GB g b j v) (w := v) hn 2 24 (by kernel_rfl) :)
            obtain ⟨⟨t', ht', hc'⟩, _⟩ := id hI
            refine s_pick 24 _ _ g rfl e1 ((pickC v g A c bs t' 3 (by omega) (by omega) hc' (by omega)).mono ?_)
            rintro e v' ⟨x, rfl, x0, x1, hc2, hg2⟩
            exact ⟨_, rfl, hK _ _ ⟨x, rfl⟩ trivial (hI.drawn hg2 hbg hrg (by omega) hc2)⟩
          | 4, ho =>
            obtain rfl := Option.some.inj ho
            obtain ⟨x0, e0⟩ : ∃ x : Int, a'.eval (.tmp 23) = .int .i64 x := (need_of (Γ := fun j _ v => GB g b j v) (w := v) hn 1 23 (by kernel_rfl) :)
            obtain ⟨x1, e1⟩ : ∃ x : Int, a'.eval (.tmp 25) = .int .i64 x := (need_of (Γ := fun j _ v => GB g b j v) (w := v) hn 3 25 (by kernel_rfl) :)
            exact s_sub _ _ x0 x1 rfl e0 e1 (fun z => hK _ _ ⟨z, rfl⟩ trivial hI.more)
          | 5, ho =>
            obtain rfl := Option.some.inj ho
            obtain ⟨x0, e0⟩ : ∃ x : Int, a'.eval (.tmp 26) = .int .i64 x := (need_of (Γ := fun j _ v => GB g b j v) (w := v) hn 4 26 (by kernel_rfl) :)
            exact s_max _ _ _ 0 x0 rfl rfl e0 (fun z => hK _ _ ⟨z, rfl⟩ trivial hI.more)
          | 6, ho =>
            obtain rfl := Option.some.inj ho
            exact s_fldLen _ b rfl (out_of hx 3 rfl hp3) (hK _ _ rfl trivial hI.more)
          | 7, ho =>
            obtain rfl := Option.some.inj ho
            have e1 : a'.eval (.tmp 28) = .pointer (some ⟨b, 5, none⟩) := (need_of (Γ := fun j _ v => GB g b j v) (w := v) hn 6 28 (by kernel_rfl) :)
            obtain ⟨x0, e0⟩ : ∃ x : Int, a'.eval (.tmp 27) = .int .i64 x := (need_of (Γ := fun j _ v => GB g b j v) (w := v) hn 5 27 (by kernel_rfl) :)
            obtain ⟨⟨t', ht', hc'⟩, ⟨l, hl⟩, hr0, h4⟩ := id hI
            exact s_storeI _ _ b 5 x0 (.int .i64 l) rfl e1 e0 (row6d hl).1.2.2.2.2.2 (row6d hl).2.2.2.2.2.2 (hK undef _ trivial trivial ⟨⟨t', by omega, hc'.grownBy (grownBy_set v b 5 _) (fun u hu => by cases hu; exact hgb)⟩, ⟨x0, heap_setCell_same v b 5 _ _ (.int .i64 x0) hl⟩, (heap_setCell_other v ⟨b, 5, none⟩ r (.int .i64 x0) hrb).trans hr0, grown_other h4 (grownBy_set v b 5 _) (fun u hu => by cases hu; exact hWb)⟩)
          | j + 8, ho => simp at ho
        · intro a' w' hsz hdf hout hkp hsl hI
          clear hkp hsl
          rename_i K hret
          obtain ⟨⟨t', ht', hc'⟩, ⟨l, hl⟩, hr0, hg'⟩ := hI
          have ht2' : t' ≤ t2 + 1 + 4 * 8 := ht'
          refine hret _ _ ?_
          have hs2 : a'.tmps.getD 2 undef = .pointer (some ⟨r, 0, none⟩) := hout 2 (by simp)
          have hs3 : a'.tmps.getD 3 undef = .pointer (some ⟨b, 0, none⟩) := hout 3 (by simp)
          have h29 : 29 < a'.tmps.size := by rw [hsz]; decide
          have hs2v : ∀ v, (a'.tmps.setIfInBounds 29 v).getD 2 undef = .pointer (some ⟨r, 0, none⟩) := fun v => by rw [← hs2]; simp [Array.getElem?_setIfInBounds_ne]
          obtain ⟨⟨c0, c1, c2, c3, c4, c5⟩, f0, f1, f2, f3, f4, f5⟩ := row6d hl
          obtain ⟨⟨r0, r1, r2, r3, r4, r5⟩, q0, q1, q2, q3, q4, q5⟩ := row6d hr0
          have HC' := Lib.hid hc'
          have HG' := Lib.hid hg'
          have HR' := Lib.hid hr0
          clear hsz hout ht' hl hr0 hc' hg'
          go_wp2
          (try simp only [Exit.inBlock, Exit.then])
          refine bodyPost_ret (v := .agg #[.int .i64 (Pf.mk p.base l).base.k, .int .i64 (Pf.mk p.base l).base.a, .int .i64 (Pf.mk p.base l).base.b, .int .i64 (Pf.mk p.base l).base.c, .int .i64 (Pf.mk p.base l).base.d, .int .i64 (Pf.mk p.base l).len]) ?_ rfl ⟨⟨p.base, l⟩, _, rfl, by omega, cur6 HC'.out (by omega), grown6 HG'.out hWr⟩
          exact res_cell Try.results138 _ _ _ r _ (hs2v _) (run_loadVar_row _ _ 31 31 _ (0, 0) _ (set6d _ _ _ _ _ _ HR'.out) Try.underlying31 rfl info_pfxd)
      · have e0 : (y == 0) = false := by simpa using h0
        have e1 : (y == 1) = false := by simpa using h1
        have e2 : (y == 2) = false := by simpa using h2
        obtain ⟨⟨c0, c1, c2, c3, c4, c5⟩, f0, f1, f2, f3, f4, f5⟩ := row6d HB3.out
        obtain ⟨⟨r0, r1, r2, r3, r4, r5⟩, q0, q1, q2, q3, q4, q5⟩ := row6d HR3.out
        have HC3 := Lib.hid hc3
        clear hc3
        go_wp2
        (try simp only [Exit.inBlock, Exit.then])
        refine bodyPost_ret (v := .agg #[.int .i64 p.base.k, .int .i64 p.base.a, .int .i64 p.base.b, .int .i64 p.base.c, .int .i64 p.base.d, .int .i64 p.len]) ?_ rfl ⟨p, _, rfl, by omega, cur6 HC3.out (by omega), grown6 HG3.out (Nat.le_refl _)⟩
        refine res_cell Try.results138 _ _ _ w.heap.size _ ?_ (run_loadVar_row _ _ 31 31 _ (0, 0) _ (set6d _ _ _ _ _ _ HR3.out) Try.underlying31 rfl info_pfxd)
        rfl
end Go.Proofs.Ytdndanbalmoklaa
