/-
  The model's draws of two prefixes.
-/
import Derived.Test.YtckakpcjbndijaaPfxDraw3
namespace Go.Proofs.Ytckakpcjbndijaa
open Go.RowKit

set_option maxHeartbeats 2000000 in
set_option maxRecDepth 100000 in
theorem drawPrefixIn (A : Option Addr) (c : Nat) (bs : List UInt8) (w : World) (hr : RB w w.heap.size A bs) (hn : bs.length ≤ 1048576) :
    Calls Try.prog 33 #[.slice A bs.length c] w (TwoPf w) := by
  have HO := Lib.hid (fun o o' : Obj => openC A c bs ((w.alloc o).alloc o') ((hr.below (Joins.below_alloc2 w o o')).more (by simp; omega)) hn)
  go_enter Try.func33, Try.ntmps33
  go_wp2_with fail
  refine (HO.out _ _).mono ?_
  rintro e w1 ⟨rfl, hc1, b1⟩
  have HR1 : Hid (w1.heap[w.heap.size]? = rowP Pf.zero) := Lib.hid (row_on b1 (by simp; omega) (row_on (Joins.below_alloc1 (w.alloc _) _) (by simp) (Go.heap_alloc_last w _)))
  have HS1 : Hid (w1.heap[w.heap.size + 1]? = rowP Pf.zero) := Lib.hid (row_on b1 (g := w.heap.size + 1) (by simp) (heap_alloc2_new w _ _))
  have B1 := Lib.hid (bthen (Joins.below_alloc2 w _ _) b1)
  clear b1 HO hr
  simp only [World.size_alloc] at *
  go_wp2_with fail
  refine (badPrefixC w1 (w.heap.size + 1 + 1) A c bs 0 hc1 (by omega)).mono ?_
  rintro e w2 ⟨p, t2, rfl, ht2, hc2, hg2⟩
  have HR2 := Lib.hid (row_kept hg2 (by omega) HR1.out)
  have HS2 := Lib.hid (row_kept hg2 (by omega) HS1.out)
  have B2 := Lib.hid (bgrown B1.out hg2 (fun k hk => by cases hk; omega))
  have hz2 : w.heap.size + 1 + 1 < w2.heap.size := hc2.lt
  have HC2 := Lib.hid (fun o : Obj => hc2.below (Joins.below_alloc1 w2 o))
  clear hc1 hg2 HR1 HS1 B1 hc2
  go_wp2_with fail
  refine (badPrefixC _ (w.heap.size + 1 + 1) A c bs t2 (HC2.out _) (by omega)).mono ?_
  rintro e w3 ⟨q, t3, rfl, ht3, hc3, hg3⟩
  have HP3 : Hid (w3.heap[w2.heap.size]? = rowP p) := Lib.hid (row_kept hg3 (by omega) (Go.heap_alloc_last w2 (.cells #[.int .i64 p.base.k, .int .i64 p.base.a, .int .i64 p.base.b, .int .i64 p.base.c, .int .i64 p.base.d, .int .i64 p.len] 43)))
  have HR3 := Lib.hid (row_kept hg3 (by omega) (row_on (Joins.below_alloc1 w2 _) (row_lt HR2.out) HR2.out))
  have HS3 := Lib.hid (row_kept hg3 (by omega) (row_on (Joins.below_alloc1 w2 _) (row_lt HS2.out) HS2.out))
  have B3 := Lib.hid (bgrown (bthen B2.out (Joins.below_alloc1 w2 _)) hg3 (fun k hk => by cases hk; omega))
  have hz3 : w2.heap.size < w3.heap.size := row_lt HP3.out
  have HC3 := Lib.hid (fun o : Obj => hc3.below (Joins.below_alloc1 w3 o))
  clear hg3 HR2 HS2 B2 hc3 HC2
  go_wp2_with fail
  refine (onceC _ (w.heap.size + 1 + 1) A c bs t3 2 (by omega) (by omega) (HC3.out _) (by omega)).mono ?_
  rintro e w4 ⟨b, rfl, hc4, hg4⟩
  have HQ4 : Hid (w4.heap[w3.heap.size]? = rowP q) := Lib.hid (row_kept hg4 (by omega) (Go.heap_alloc_last w3 (.cells #[.int .i64 q.base.k, .int .i64 q.base.a, .int .i64 q.base.b, .int .i64 q.base.c, .int .i64 q.base.d, .int .i64 q.len] 43)))
  have HP4 := Lib.hid (row_kept hg4 (by omega) (row_on (Joins.below_alloc1 w3 _) (row_lt HP3.out) HP3.out))
  have HR4 := Lib.hid (row_kept hg4 (by omega) (row_on (Joins.below_alloc1 w3 _) (row_lt HR3.out) HR3.out))
  have HS4 := Lib.hid (row_kept hg4 (by omega) (row_on (Joins.below_alloc1 w3 _) (row_lt HS3.out) HS3.out))
  have B4 := Lib.hid (bgrown (bthen B3.out (Joins.below_alloc1 w3 _)) hg4 (fun k hk => by cases hk; omega))
  have hz4 : w3.heap.size < w4.heap.size := row_lt HQ4.out
  clear hg4 HR3 HS3 HP3 B3 HC3
  rename_i K1 k1 K2 k2 K3 k3
  have FIN : Hid (∀ (a' : Act) (wE : World), a'.tmps.size = 33 → a'.defers = [] → a'.tmps.getD 2 undef = .pointer (some ⟨w.heap.size, 0, none⟩) → a'.tmps.getD 3 undef = .pointer (some ⟨w.heap.size + 1, 0, none⟩) → a'.tmps.getD 5 undef = .pointer (some ⟨w2.heap.size, 0, none⟩) → a'.tmps.getD 6 undef = .pointer (some ⟨w3.heap.size, 0, none⟩) → InPP w w2.heap.size w3.heap.size w.heap.size (w.heap.size + 1) wE → K1 a' wE) := Lib.hid (by
    intro a' wE hsz hdf h2 h3 h5 h6 hI0
    refine k1 _ _ ?_
    have hPR : w2.heap.size ≠ w.heap.size := by omega
    have hPS : w2.heap.size ≠ w.heap.size + 1 := by omega
    have hQR : w3.heap.size ≠ w.heap.size := by omega
    have hQS : w3.heap.size ≠ w.heap.size + 1 := by omega
    have hSR : w.heap.size + 1 ≠ w.heap.size := by omega
    have hRS : w.heap.size ≠ w.heap.size + 1 := by omega
    have hS : w.heap.size ≤ w.heap.size + 1 := by omega
    clear k1 k2 k3 HQ4 HP4 HR4 HS4 B4 hc4
    go_wp2
    refine wp_region_kept (by kernel_rfl) (fun j _ v => GPP j v) [2, 3, 5, 6] (fun _ w' => InPP w w2.heap.size w3.heap.size w.heap.size (w.heap.size + 1) w') (fun _ _ => True) 33 (by kernel_rfl) hsz ⟨hI0.1, hI0.2.1, hI0.2.2.1, hI0.2.2.2.1, ⟨hI0.2.2.2.2.os, hI0.2.2.2.2.tape, hI0.2.2.2.2.output, hI0.2.2.2.2.size, hI0.2.2.2.2.block⟩⟩ (fun j v v' u h hu => hu) ?_ ?_
    · intro j o ho k a2 v K hx hn hk4 hI hK
      match j, ho with
      | 0, ho =>
        obtain rfl := Option.some.inj ho
        obtain ⟨⟨p, hp⟩, _⟩ := id hI
        exact s_loadP 5 _ p rfl (out_of hx 5 rfl h5) hp (hK _ _ ⟨p, rfl⟩ trivial hI)
      | 1, ho =>
        obtain rfl := Option.some.inj ho
        obtain ⟨_, ⟨p, hp⟩, _⟩ := id hI
        exact s_loadP 6 _ p rfl (out_of hx 6 rfl h6) hp (hK _ _ ⟨p, rfl⟩ trivial hI)
      | 2, ho =>
        obtain rfl := Option.some.inj ho
        obtain ⟨z, e1⟩ : ∃ p : Pf, a2.eval (.tmp 31) = .agg #[.int .i64 p.base.k, .int .i64 p.base.a, .int .i64 p.base.b, .int .i64 p.base.c, .int .i64 p.base.d, .int .i64 p.len] := (need_of (Γ := fun j _ v => GPP j v) (w := v) hn 0 31 (by kernel_rfl) :)
        obtain ⟨⟨p, hp⟩, ⟨q, hq⟩, ⟨x, hr⟩, ⟨y, hs⟩, hb⟩ := id hI
        exact s_storeP _ _ _ z x rfl (out_of hx 2 rfl h2) e1 hr (hK undef _ trivial trivial ⟨⟨p, (set_other6 hPR).trans hp⟩, ⟨q, (set_other6 hQR).trans hq⟩, ⟨z, set6d _ _ _ _ _ _ hr⟩, ⟨y, (set_other6 hSR).trans hs⟩, belowSet6 hb (Nat.le_refl _)⟩)
      | 3, ho =>
        obtain rfl := Option.some.inj ho
        obtain ⟨z, e1⟩ : ∃ p : Pf, a2.eval (.tmp 32) = .agg #[.int .i64 p.base.k, .int .i64 p.base.a, .int .i64 p.base.b, .int .i64 p.base.c, .int .i64 p.base.d, .int .i64 p.len] := (need_of (Γ := fun j _ v => GPP j v) (w := v) hn 1 32 (by kernel_rfl) :)
        obtain ⟨⟨p, hp⟩, ⟨q, hq⟩, ⟨x, hr⟩, ⟨y, hs⟩, hb⟩ := id hI
        exact s_storeP _ _ _ z y rfl (out_of hx 3 rfl h3) e1 hs (hK undef _ trivial trivial ⟨⟨p, (set_other6 hPS).trans hp⟩, ⟨q, (set_other6 hQS).trans hq⟩, ⟨x, (set_other6 hRS).trans hr⟩, ⟨z, set6d _ _ _ _ _ _ hs⟩, belowSet6 hb hS⟩)
      | j + 4, ho => simp at ho
    · intro a2 w' hsz2 hdf2 hout hkp hsl hI
      clear hkp hsl
      rename_i K hret
      obtain ⟨_, _, ⟨p, hp⟩, ⟨q, hq⟩, hb⟩ := hI
      refine hret _ _ ?_
      have g2 := (hout 2 (by simp)).trans h2
      have g3 := (hout 3 (by simp)).trans h3
      have hdf3 := hdf2.trans hdf
      clear hout hsz2 hdf2 hI0 h2 h3 h5 h6
      go_wp2
      (try simp only [Exit.inBlock, Exit.then])
      refine bodyPost_ret (v := .tuple #[.agg #[.int .i64 p.base.k, .int .i64 p.base.a, .int .i64 p.base.b, .int .i64 p.base.c, .int .i64 p.base.d, .int .i64 p.len], .agg #[.int .i64 q.base.k, .int .i64 q.base.a, .int .i64 q.base.b, .int .i64 q.base.c, .int .i64 q.base.d, .int .i64 q.len]]) ?_ hdf3 ⟨p, q, rfl, hb⟩
      exact res_cell_cell Try.results33 _ _ _ _ _ _ _ g2 g3 (run_loadVar_row _ _ 43 43 _ (0, 0) _ hp Try.underlying43 rfl info_pfxd) (run_loadVar_row _ _ 43 43 _ (0, 0) _ hq Try.underlying43 rfl info_pfxd))
  clear k1
  cases b
  · go_wp2
    exact FIN.out _ _ rfl rfl rfl rfl rfl rfl ⟨⟨p, HP4.out⟩, ⟨q, HQ4.out⟩, ⟨_, HR4.out⟩, ⟨_, HS4.out⟩, B4.out⟩
  · have pk := specPrefixOk p
    obtain ⟨⟨c0, c1, c2, c3, c4, c5⟩, f0, f1, f2, f3, f4, f5⟩ := row6d HP4.out
    cases hok : p.ok
    · rw [hok] at pk
      clear hok
      have PK := Lib.hid pk
      clear pk
      go_wp2_with fail
      refine (PK.out _).mono ?_
      rintro e w5 ⟨rfl, b5⟩
      have HP5 := Lib.hid (row_on b5 (row_lt HP4.out) HP4.out)
      have HQ5 := Lib.hid (row_on b5 (row_lt HQ4.out) HQ4.out)
      have HR5 := Lib.hid (row_on b5 (row_lt HR4.out) HR4.out)
      have HS5 := Lib.hid (row_on b5 (row_lt HS4.out) HS4.out)
      have B5 := Lib.hid (bthen B4.out b5)
      clear b5 c0 c1 c2 c3 c4 c5 f0 f1 f2 f3 f4 f5
      go_wp2
      exact FIN.out _ _ rfl rfl rfl rfl rfl rfl ⟨⟨p, HP5.out⟩, ⟨q, HQ5.out⟩, ⟨_, HR5.out⟩, ⟨_, HS5.out⟩, B5.out⟩
    · have hl := Pf.len_of hok
      have hl0 := hl.1
      have hl1 := hl.2
      rw [hok] at pk
      have HOK := Lib.hid hok
      clear hok hl
      have PK := Lib.hid pk
      clear pk
      go_wp2_with fail
      refine (PK.out _).mono ?_
      rintro e w5 ⟨rfl, b5⟩
      have HP5 := Lib.hid (row_on b5 (row_lt HP4.out) HP4.out)
      have HQ5 := Lib.hid (row_on b5 (row_lt HQ4.out) HQ4.out)
      have HR5 := Lib.hid (row_on b5 (row_lt HR4.out) HR4.out)
      have HS5 := Lib.hid (row_on b5 (row_lt HS4.out) HS4.out)
      have B5 := Lib.hid (bthen B4.out b5)
      have C5 := Lib.hid (hc4.below b5)
      have hz5 : w4.heap.size ≤ w5.heap.size := b5.size
      clear b5 c0 c1 c2 c3 c4 c5 f0 f1 f2 f3 f4 f5
      obtain ⟨⟨c0, c1, c2, c3, c4, c5⟩, f0, f1, f2, f3, f4, f5⟩ := row6d HP5.out
      go_wp2_with fail
      refine (pickS _ (w.heap.size + 1 + 1) A c bs (t3 + 1) (p.len + 1) (by omega) (by omega) C5.out (by omega)).mono ?_
      rintro e w6 ⟨n, t6, rfl, n0, n1, ht6, hc6, hg6⟩
      have HP6 := Lib.hid (row_kept hg6 (by omega) HP5.out)
      have HQ6 := Lib.hid (row_kept hg6 (by omega) HQ5.out)
      have HR6 := Lib.hid (row_kept hg6 (by omega) HR5.out)
      have HS6 := Lib.hid (row_kept hg6 (by omega) HS5.out)
      have B6 := Lib.hid (bgrown B5.out hg6 (fun k hk => by cases hk; omega))
      clear hg6 hc6 c0 c1 c2 c3 c4 c5 f0 f1 f2 f3 f4 f5
      obtain ⟨⟨c0, c1, c2, c3, c4, c5⟩, f0, f1, f2, f3, f4, f5⟩ := row6d HP6.out
      go_wp2_with fail
      refine (specCut p.base n _).mono ?_
      rintro e w7 ⟨rfl, b7⟩
      have HP7 := Lib.hid (row_on b7 (row_lt HP6.out) HP6.out)
      have HQ7 := Lib.hid (row_on b7 (row_lt HQ6.out) HQ6.out)
      have HR7 := Lib.hid (row_on b7 (row_lt HR6.out) HR6.out)
      have HS7 := Lib.hid (row_on b7 (row_lt HS6.out) HS6.out)
      have B7 := Lib.hid (bthen B6.out b7)
      clear b7 c0 c1 c2 c3 c4 c5 f0 f1 f2 f3 f4 f5
      obtain ⟨⟨c0, c1, c2, c3, c4, c5⟩, f0, f1, f2, f3, f4, f5⟩ := row6d HQ7.out
      go_wp2
      exact FIN.out _ _ rfl rfl rfl rfl rfl rfl ⟨⟨p, (set_other6 (by omega)).trans HP7.out⟩, ⟨⟨p.base.cut n, n⟩, set6d _ _ _ _ _ _ HQ7.out⟩, ⟨_, (set_other6 (by omega)).trans HR7.out⟩, ⟨_, (set_other6 (by omega)).trans HS7.out⟩, belowSet6 B7.out (by omega)⟩

end Go.Proofs.Ytckakpcjbndijaa
