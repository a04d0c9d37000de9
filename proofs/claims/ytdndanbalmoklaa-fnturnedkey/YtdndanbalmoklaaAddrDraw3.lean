/-
  The model's draws of addresses whose kind or parts may be wrong.
-/
import Derived.Test.YtdndanbalmoklaaAddrDraw2
namespace Go.Proofs.Ytdndanbalmoklaa
set_option maxRecDepth 100000
open Go.RowKit

set_option maxHeartbeats 2000000 in
theorem badAddrC (w : World) (g : Nat) (A : Option Addr) (c : Nat) (bs : List UInt8) (t : Nat) (hc : Cur w g A c bs t) (ht : t ≤ 800000000000) :
    Calls Try.prog 140 #[.pointer (some ⟨g, 0, none⟩)] w (AdDrawn w g A c bs (t + 112)) := by
  have hgw := hc.lt
  have HC := Lib.hid (fun o : Obj => hc.below (Joins.below_alloc1 w o))
  have HR := Lib.hid (Go.heap_alloc_last w (.cells #[.int .i64 0, .int .i64 0, .int .i64 0, .int .i64 0, .int .i64 0] 29))
  have HG := Lib.hid (only_new (grown_refl w (some g)) (.cells #[.int .i64 0, .int .i64 0, .int .i64 0, .int .i64 0, .int .i64 0] 29))
  have hrg : w.heap.size ≠ g := by omega
  go_enter Try.func140, Try.ntmps140
  go_wp2_with fail
  refine (kindC _ g A c bs t (HC.out _) (by omega)).mono ?_
  rintro e w1 ⟨k, rfl, hc1, hg1⟩
  have HG1 := Lib.hid (grownBy_trans HG.out hg1)
  have HR1 := Lib.hid (row_kept hg1 hrg HR.out)
  clear hg1
  go_wp2_with fail
  refine (addrC _ g A c bs (t + 1) k hc1 (by omega)).mono ?_
  rintro e w2 ⟨x, t2, rfl, ht2, hc2, hg2⟩
  have HG2 := Lib.hid (grownBy_trans HG1.out hg2)
  have HR2 := Lib.hid (row_kept hg2 hrg HR1.out)
  have hz2 : w.heap.size < w2.heap.size := row_lt HR2.out
  have hg2l := hc2.lt
  have HC2 := Lib.hid (fun o : Obj => hc2.below (Joins.below_alloc1 w2 o))
  have hbg : w2.heap.size ≠ g := by omega
  have hrb : w.heap.size ≠ w2.heap.size := by omega
  clear hg2 hc1 hc2
  go_wp2_with fail
  refine (pickC _ g A c bs t2 6 (by omega) (by omega) (HC2.out _) (by omega)).mono ?_
  rintro e w3 ⟨y, rfl, y0, y1, hc3, hg3⟩
  have HG3 := Lib.hid (grownBy_trans (only_new HG2.out _) hg3)
  have HR3 := Lib.hid (row_kept hg3 hrg (row_on (Joins.below_alloc1 w2 _) (row_lt HR2.out) HR2.out))
  have HB3 := Lib.hid (row_kept hg3 hbg (Go.heap_alloc_last w2 (.cells #[.int .i64 x.k, .int .i64 x.a, .int .i64 x.b, .int .i64 x.c, .int .i64 x.d] 29)))
  clear hg3
  obtain ⟨s, hs⟩ : ∃ s, s = t + 112 := ⟨_, rfl⟩
  have HS := Lib.hid hs
  rw [← hs]
  clear hs
  by_cases h0 : y = 0
  · subst h0
    go_wp2_with fail
    refine (rawC _ g A c bs _ hc3 (by omega)).mono ?_
    rintro e w4 ⟨z, rfl, _, hc4, hg4⟩
    have B4 := row_kept hg4 hbg HB3.out
    have R4 := row_kept hg4 hrg HR3.out
    have HG4 := Lib.hid (grownBy_trans HG3.out hg4)
    have B5 := Lib.hid (heap_setCell_same w4 w2.heap.size 0 _ _ (.int .i64 z) B4)
    have R5 := Lib.hid ((heap_setCell_other w4 ⟨w2.heap.size, 0, none⟩ w.heap.size (.int .i64 z) hrb).trans R4)
    obtain ⟨⟨c0, c1, c2, c3, c4⟩, f0, f1, f2, f3, f4⟩ := row5 B4
    have HG5 := Lib.hid (grown_other HG4.out (grownBy_set w4 w2.heap.size 0 (.int .i64 z)) (fun u hu => by cases hu; omega))
    have HC5 := Lib.hid (hc4.grownBy (grownBy_set w4 w2.heap.size 0 (.int .i64 z)) (fun u hu => by cases hu; omega))
    obtain ⟨⟨d0, d1, d2, d3, d4⟩, k0, k1, k2, k3, k4⟩ := row5 (g := w2.heap.size) B5.out
    obtain ⟨⟨r0, r1, r2, r3, r4⟩, q0, q1, q2, q3, q4⟩ := row5 R5.out
    clear B4 R4 hg4 hc4 hc3
    go_wp2
    (try simp only [Exit.inBlock, Exit.then])
    refine bodyPost_ret (v := .agg #[.int .i64 (Ad.mk z x.a x.b x.c x.d).k, .int .i64 (Ad.mk z x.a x.b x.c x.d).a, .int .i64 (Ad.mk z x.a x.b x.c x.d).b, .int .i64 (Ad.mk z x.a x.b x.c x.d).c, .int .i64 (Ad.mk z x.a x.b x.c x.d).d]) ?_ rfl ⟨⟨z, x.a, x.b, x.c, x.d⟩, _, rfl, by have := HS.out; omega, cur5 HC5.out (by omega), grown5 HG5.out (Nat.le_refl _)⟩
    refine res_cell Try.results140 _ _ _ w.heap.size _ ?_ (run_loadVar_row _ _ 29 29 _ (0, 0) _ (set5 _ _ _ _ _ R5.out) Try.underlying29 rfl info_addr)
    rfl
  · by_cases h1 : y = 1
    · subst h1
      go_wp2_with fail
      refine (rawC _ g A c bs _ hc3 (by omega)).mono ?_
      rintro e w4 ⟨z, rfl, _, hc4, hg4⟩
      have B4 := row_kept hg4 hbg HB3.out
      have R4 := row_kept hg4 hrg HR3.out
      have HG4 := Lib.hid (grownBy_trans HG3.out hg4)
      have B5 := Lib.hid (heap_setCell_same w4 w2.heap.size 4 _ _ (.int .i64 z) B4)
      have R5 := Lib.hid ((heap_setCell_other w4 ⟨w2.heap.size, 4, none⟩ w.heap.size (.int .i64 z) hrb).trans R4)
      obtain ⟨⟨c0, c1, c2, c3, c4⟩, f0, f1, f2, f3, f4⟩ := row5 B4
      have HG5 := Lib.hid (grown_other HG4.out (grownBy_set w4 w2.heap.size 4 (.int .i64 z)) (fun u hu => by cases hu; omega))
      have HC5 := Lib.hid (hc4.grownBy (grownBy_set w4 w2.heap.size 4 (.int .i64 z)) (fun u hu => by cases hu; omega))
      obtain ⟨⟨d0, d1, d2, d3, d4⟩, k0, k1, k2, k3, k4⟩ := row5 (g := w2.heap.size) B5.out
      obtain ⟨⟨r0, r1, r2, r3, r4⟩, q0, q1, q2, q3, q4⟩ := row5 R5.out
      clear B4 R4 hg4 hc4 hc3
      go_wp2
      (try simp only [Exit.inBlock, Exit.then])
      refine bodyPost_ret (v := .agg #[.int .i64 (Ad.mk x.k x.a x.b x.c z).k, .int .i64 (Ad.mk x.k x.a x.b x.c z).a, .int .i64 (Ad.mk x.k x.a x.b x.c z).b, .int .i64 (Ad.mk x.k x.a x.b x.c z).c, .int .i64 (Ad.mk x.k x.a x.b x.c z).d]) ?_ rfl ⟨⟨x.k, x.a, x.b, x.c, z⟩, _, rfl, by have := HS.out; omega, cur5 HC5.out (by omega), grown5 HG5.out (Nat.le_refl _)⟩
      refine res_cell Try.results140 _ _ _ w.heap.size _ ?_ (run_loadVar_row _ _ 29 29 _ (0, 0) _ (set5 _ _ _ _ _ R5.out) Try.underlying29 rfl info_addr)
      rfl
    · by_cases h2 : y = 2
      · subst h2
        go_wp2_with fail
        refine (rawC _ g A c bs _ hc3 (by omega)).mono ?_
        rintro e w4 ⟨z, rfl, _, hc4, hg4⟩
        have B4 := row_kept hg4 hbg HB3.out
        have R4 := row_kept hg4 hrg HR3.out
        have HG4 := Lib.hid (grownBy_trans HG3.out hg4)
        have B5 := Lib.hid (heap_setCell_same w4 w2.heap.size 1 _ _ (.int .i64 z) B4)
        have R5 := Lib.hid ((heap_setCell_other w4 ⟨w2.heap.size, 1, none⟩ w.heap.size (.int .i64 z) hrb).trans R4)
        obtain ⟨⟨c0, c1, c2, c3, c4⟩, f0, f1, f2, f3, f4⟩ := row5 B4
        have HG5 := Lib.hid (grown_other HG4.out (grownBy_set w4 w2.heap.size 1 (.int .i64 z)) (fun u hu => by cases hu; omega))
        have HC5 := Lib.hid (hc4.grownBy (grownBy_set w4 w2.heap.size 1 (.int .i64 z)) (fun u hu => by cases hu; omega))
        obtain ⟨⟨d0, d1, d2, d3, d4⟩, k0, k1, k2, k3, k4⟩ := row5 (g := w2.heap.size) B5.out
        obtain ⟨⟨r0, r1, r2, r3, r4⟩, q0, q1, q2, q3, q4⟩ := row5 R5.out
        clear B4 R4 hg4 hc4 hc3
        go_wp2
        (try simp only [Exit.inBlock, Exit.then])
        refine bodyPost_ret (v := .agg #[.int .i64 (Ad.mk x.k z x.b x.c x.d).k, .int .i64 (Ad.mk x.k z x.b x.c x.d).a, .int .i64 (Ad.mk x.k z x.b x.c x.d).b, .int .i64 (Ad.mk x.k z x.b x.c x.d).c, .int .i64 (Ad.mk x.k z x.b x.c x.d).d]) ?_ rfl ⟨⟨x.k, z, x.b, x.c, x.d⟩, _, rfl, by have := HS.out; omega, cur5 HC5.out (by omega), grown5 HG5.out (Nat.le_refl _)⟩
        refine res_cell Try.results140 _ _ _ w.heap.size _ ?_ (run_loadVar_row _ _ 29 29 _ (0, 0) _ (set5 _ _ _ _ _ R5.out) Try.underlying29 rfl info_addr)
        rfl
      · have e0 : (y == 0) = false := by simpa using h0
        have e1 : (y == 1) = false := by simpa using h1
        have e2 : (y == 2) = false := by simpa using h2
        obtain ⟨⟨c0, c1, c2, c3, c4⟩, f0, f1, f2, f3, f4⟩ := row5 HB3.out
        obtain ⟨⟨r0, r1, r2, r3, r4⟩, q0, q1, q2, q3, q4⟩ := row5 HR3.out
        have HC3 := Lib.hid hc3
        clear hc3
        go_wp2
        (try simp only [Exit.inBlock, Exit.then])
        refine bodyPost_ret (v := .agg #[.int .i64 x.k, .int .i64 x.a, .int .i64 x.b, .int .i64 x.c, .int .i64 x.d]) ?_ rfl ⟨x, _, rfl, by have := HS.out; omega, cur5 HC3.out (by omega), grown5 HG3.out (Nat.le_refl _)⟩
        refine res_cell Try.results140 _ _ _ w.heap.size _ ?_ (run_loadVar_row _ _ 29 29 _ (0, 0) _ (set5 _ _ _ _ _ HR3.out) Try.underlying29 rfl info_addr)
        rfl

theorem below5' {w a : World} {g : Nat} {v0 v1 v2 v3 v4 : Value} (h : Below w.heap.size w a) (hg : w.heap.size ≤ g) : Below w.heap.size w (((((a.setCell ⟨g, 0, none⟩ v0).setCell ⟨g, 1, none⟩ v1).setCell ⟨g, 2, none⟩ v2).setCell ⟨g, 3, none⟩ v3).setCell ⟨g, 4, none⟩ v4) :=
  ((((h.setCell (p := ⟨g, 0, none⟩) hg _).setCell (p := ⟨g, 1, none⟩) hg _).setCell (p := ⟨g, 2, none⟩) hg _).setCell (p := ⟨g, 3, none⟩) hg _).setCell (p := ⟨g, 4, none⟩) hg _
theorem bigB (A : Option Addr) (n c : Nat) (w : World) : Calls Try.prog 32 #[.slice A n c] w fun e w' => e = .returned (.bool (decide ((1048576 : Int) < n))) ∧ w = w' := by
  go_enter Try.func32, Try.ntmps32
  go_wp2
  go_ret
  exact ⟨rfl, rfl⟩

end Go.Proofs.Ytdndanbalmoklaa
