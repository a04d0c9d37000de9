/-
  The model's draws of a prefix and an address.
-/
import Derived.Test.YtckakpcjbndijaaPfxDraw4
namespace Go.Proofs.Ytckakpcjbndijaa
open Go.RowKit

theorem Pf.base_ok {p : Pf} (h : p.ok = true) (hz : ¬ p = Pf.zero) : p.base.ok = true := by
  simp only [Pf.ok, Bool.or_eq_true, Bool.and_eq_true, decide_eq_true_eq] at h
  rcases h with h | ⟨⟨h, _⟩, _⟩
  · exact absurd h hz
  · exact h

set_option maxHeartbeats 2000000 in
set_option maxRecDepth 100000 in
theorem drawPrefixHas (A : Option Addr) (c : Nat) (bs : List UInt8) (w : World) (hr : RB w w.heap.size A bs) (hn : bs.length ≤ 1048576) :
    Calls Try.prog 34 #[.slice A bs.length c] w (PfAd w) := by
  have HO := Lib.hid (fun o o' : Obj => openC A c bs ((w.alloc o).alloc o') ((hr.below (Joins.below_alloc2 w o o')).more (by simp; omega)) hn)
  go_enter Try.func34, Try.ntmps34
  go_wp2_with fail
  refine (HO.out _ _).mono ?_
  rintro e w1 ⟨rfl, hc1, b1⟩
  have HR1 : Hid (w1.heap[w.heap.size]? = rowP Pf.zero) := Lib.hid (row_on b1 (by simp; omega) (row_on (Joins.below_alloc1 (w.alloc _) _) (by simp) (Go.heap_alloc_last w _)))
  have HS1 : Hid (w1.heap[w.heap.size + 1]? = rowA Ad.zero) := Lib.hid (row_on b1 (g := w.heap.size + 1) (by simp) (heap_alloc2_new w _ _))
  have B1 := Lib.hid (bthen (Joins.below_alloc2 w _ _) b1)
  clear b1 HO hr
  simp only [World.size_alloc] at *
  go_wp2_with fail
  refine (badPrefixC w1 (w.heap.size + 1 + 1) A c bs 0 hc1 (by omega)).mono ?_
  rintro e w2 ⟨p, t2, rfl, ht2, hc2, hg2⟩
  have HR2 := Lib.hid (row_kept hg2 (by omega) HR1.out)
  have HS2 := Lib.hid (row_kept hg2 (by omega) HS1.out)
  have B2 := Lib.hid (bgrown B1.out hg2 (fun k hk => by cases hk; omega))
  have hz2 : w.heap.size + 1 + 1 < w2.heap.size := hc2.lt
  have HC2 := Lib.hid (fun o : Obj => hc2.below (Joins.below_alloc1 w2 o))
  clear hc1 hg2 HR1 HS1 B1 hc2
  go_wp2_with fail
  refine (badAddrC _ (w.heap.size + 1 + 1) A c bs t2 (HC2.out _) (by omega)).mono ?_
  rintro e w3 ⟨x, t3, rfl, ht3, hc3, hg3⟩
  have HP3 : Hid (w3.heap[w2.heap.size]? = rowP p) := Lib.hid (row_kept hg3 (by omega) (Go.heap_alloc_last w2 (.cells #[.int .i64 p.base.k, .int .i64 p.base.a, .int .i64 p.base.b, .int .i64 p.base.c, .int .i64 p.base.d, .int .i64 p.len] 43)))
  have HR3 := Lib.hid (row_kept hg3 (by omega) (row_on (Joins.below_alloc1 w2 _) (row_lt HR2.out) HR2.out))
  have HS3 := Lib.hid (row_kept hg3 (by omega) (row_on (Joins.below_alloc1 w2 _) (row_lt HS2.out) HS2.out))
  have B3 := Lib.hid (bgrown (bthen B2.out (Joins.below_alloc1 w2 _)) hg3 (fun k hk => by cases hk; omega))
  have hz3 : w2.heap.size < w3.heap.size := row_lt HP3.out
  have HC3 := Lib.hid (fun o : Obj => hc3.below (Joins.below_alloc1 w3 o))
  clear hg3 HR2 HS2 B2 hc3 HC2
  go_wp2_with fail
  refine (onceC _ (w.heap.size + 1 + 1) A c bs t3 3 (by omega) (by omega) (HC3.out _) (by omega)).mono ?_
  rintro e w4 ⟨b, rfl, hc4, hg4⟩
  have HQ4 : Hid (w4.heap[w3.heap.size]? = rowA x) := Lib.hid (row_kept hg4 (by omega) (Go.heap_alloc_last w3 (.cells #[.int .i64 x.k, .int .i64 x.a, .int .i64 x.b, .int .i64 x.c, .int .i64 x.d] 25)))
  have HP4 := Lib.hid (row_kept hg4 (by omega) (row_on (Joins.below_alloc1 w3 _) (row_lt HP3.out) HP3.out))
  have HR4 := Lib.hid (row_kept hg4 (by omega) (row_on (Joins.below_alloc1 w3 _) (row_lt HR3.out) HR3.out))
  have HS4 := Lib.hid (row_kept hg4 (by omega) (row_on (Joins.below_alloc1 w3 _) (row_lt HS3.out) HS3.out))
  have B4 := Lib.hid (bgrown (bthen B3.out (Joins.below_alloc1 w3 _)) hg4 (fun k hk => by cases hk; omega))
  have hz4 : w3.heap.size < w4.heap.size := row_lt HQ4.out
  clear hg4 HR3 HS3 HP3 B3 HC3
  rename_i K1 k1 K2 k2 K3 k3
  have FIN : Hid (∀ (a' : Act) (wE : World), a'.tmps.size = 43 → a'.defers = [] → a'.tmps.getD 2 undef = .pointer (some ⟨w.heap.size, 0, none⟩) → a'.tmps.getD 3 undef = .pointer (some ⟨w.heap.size + 1, 0, none⟩) → a'.tmps.getD 5 undef = .pointer (some ⟨w2.heap.size, 0, none⟩) → a'.tmps.getD 6 undef = .pointer (some ⟨w3.heap.size, 0, none⟩) → InPA w w2.heap.size w3.heap.size w.heap.size (w.heap.size + 1) wE → K1 a' wE) := Lib.hid (by
    intro a' wE hsz hdf h2 h3 h5 h6 hI0
    refine k1 _ _ ?_
    have hPR : w2.heap.size ≠ w.heap.size := by omega
    have hPS : w2.heap.size ≠ w.heap.size + 1 := by omega
    have hQR : w3.heap.size ≠ w.heap.size := by omega
    have hQS : w3.heap.size ≠ w.heap.size + 1 := by omega
    have hSR : w.heap.size + 1 ≠ w.heap.size := by omega
    have hRS : w.heap.size ≠ w.heap.size + 1 := by omega
    have hS : w.heap.size ≤ w.heap.size + 1 := by omega
    clear k1 k2 k3 HQ4 HP4 HR4 HS4 B4 hc4
    go_wp2
    refine wp_region_kept (by kernel_rfl) (fun j _ v => GPA j v) [2, 3, 5, 6] (fun _ w' => InPA w w2.heap.size w3.heap.size w.heap.size (w.heap.size + 1) w') (fun _ _ => True) 43 (by kernel_rfl) hsz ⟨hI0.1, hI0.2.1, hI0.2.2.1, hI0.2.2.2.1, ⟨hI0.2.2.2.2.os, hI0.2.2.2.2.tape, hI0.2.2.2.2.output, hI0.2.2.2.2.size, hI0.2.2.2.2.block⟩⟩ (fun j v v' u h hu => hu) ?_ ?_
    · intro j o ho k a2 v K hx hn hk4 hI hK
      match j, ho with
      | 0, ho =>
        obtain rfl := Option.some.inj ho
        obtain ⟨⟨p, hp⟩, _⟩ := id hI
        exact s_loadP 5 _ p rfl (out_of hx 5 rfl h5) hp (hK _ _ ⟨p, rfl⟩ trivial hI)
      | 1, ho =>
        obtain rfl := Option.some.inj ho
        obtain ⟨_, ⟨p, hp⟩, _⟩ := id hI
        exact s_loadA 6 _ p rfl (out_of hx 6 rfl h6) hp (hK _ _ ⟨p, rfl⟩ trivial hI)
      | 2, ho =>
        obtain rfl := Option.some.inj ho
        obtain ⟨z, e1⟩ : ∃ p : Pf, a2.eval (.tmp 41) = .agg #[.int .i64 p.base.k, .int .i64 p.base.a, .int .i64 p.base.b, .int .i64 p.base.c, .int .i64 p.base.d, .int .i64 p.len] := (need_of (Γ := fun j _ v => GPA j v) (w := v) hn 0 41 (by kernel_rfl) :)
        obtain ⟨⟨p, hp⟩, ⟨q, hq⟩, ⟨x, hr⟩, ⟨y, hs⟩, hb⟩ := id hI
        exact s_storeP _ _ _ z x rfl (out_of hx 2 rfl h2) e1 hr (hK undef _ trivial trivial ⟨⟨p, (set_other6 hPR).trans hp⟩, ⟨q, (set_other6 hQR).trans hq⟩, ⟨z, set6d _ _ _ _ _ _ hr⟩, ⟨y, (set_other6 hSR).trans hs⟩, belowSet6 hb (Nat.le_refl _)⟩)
      | 3, ho =>
        obtain rfl := Option.some.inj ho
        obtain ⟨z, e1⟩ : ∃ p : Ad, a2.eval (.tmp 42) = .agg #[.int .i64 p.k, .int .i64 p.a, .int .i64 p.b, .int .i64 p.c, .int .i64 p.d] := (need_of (Γ := fun j _ v => GPA j v) (w := v) hn 1 42 (by kernel_rfl) :)
        obtain ⟨⟨p, hp⟩, ⟨q, hq⟩, ⟨x, hr⟩, ⟨y, hs⟩, hb⟩ := id hI
        exact s_store5 _ _ _ z y rfl (out_of hx 3 rfl h3) e1 hs (hK undef _ trivial trivial ⟨⟨p, (set_other5 hPS).trans hp⟩, ⟨q, (set_other5 hQS).trans hq⟩, ⟨x, (set_other5 hRS).trans hr⟩, ⟨z, set5 _ _ _ _ _ hs⟩, below5' hb hS⟩)
      | j + 4, ho => simp at ho
    · intro a2 w' hsz2 hdf2 hout hkp hsl hI
      clear hkp hsl
      rename_i K hret
      obtain ⟨_, _, ⟨p, hp⟩, ⟨q, hq⟩, hb⟩ := hI
      refine hret _ _ ?_
      have g2 := (hout 2 (by simp)).trans h2
      have g3 := (hout 3 (by simp)).trans h3
      have hdf3 := hdf2.trans hdf
      clear hout hsz2 hdf2 hI0 h2 h3 h5 h6
      go_wp2
      (try simp only [Exit.inBlock, Exit.then])
      refine bodyPost_ret (v := .tuple #[.agg #[.int .i64 p.base.k, .int .i64 p.base.a, .int .i64 p.base.b, .int .i64 p.base.c, .int .i64 p.base.d, .int .i64 p.len], .agg #[.int .i64 q.k, .int .i64 q.a, .int .i64 q.b, .int .i64 q.c, .int .i64 q.d]]) ?_ hdf3 ⟨p, q, rfl, hb⟩
      exact res_cell_cell Try.results34 _ _ _ _ _ _ _ g2 g3 (run_loadVar_row _ _ 43 43 _ (0, 0) _ hp Try.underlying43 rfl info_pfxd) (run_loadVar_row _ _ 25 25 _ (0, 0) _ hq Try.underlying25 rfl info_addr))
  clear k1
  cases b
  · go_wp2
    exact FIN.out _ _ rfl rfl rfl rfl rfl rfl ⟨⟨p, HP4.out⟩, ⟨x, HQ4.out⟩, ⟨_, HR4.out⟩, ⟨_, HS4.out⟩, B4.out⟩
  · have pk := specPrefixOk p
    obtain ⟨⟨c0, c1, c2, c3, c4, c5⟩, f0, f1, f2, f3, f4, f5⟩ := row6d HP4.out
    cases hok : p.ok
    · rw [hok] at pk
      clear hok
      have PK := Lib.hid pk
      clear pk
      go_wp2_with fail
      refine (PK.out _).mono ?_
      rintro e w5 ⟨rfl, b5⟩
      have HP5 := Lib.hid (row_on b5 (row_lt HP4.out) HP4.out)
      have HQ5 := Lib.hid (row_on b5 (row_lt HQ4.out) HQ4.out)
      have HR5 := Lib.hid (row_on b5 (row_lt HR4.out) HR4.out)
      have HS5 := Lib.hid (row_on b5 (row_lt HS4.out) HS4.out)
      have B5 := Lib.hid (bthen B4.out b5)
      clear b5 c0 c1 c2 c3 c4 c5 f0 f1 f2 f3 f4 f5
      go_wp2
      exact FIN.out _ _ rfl rfl rfl rfl rfl rfl ⟨⟨p, HP5.out⟩, ⟨x, HQ5.out⟩, ⟨_, HR5.out⟩, ⟨_, HS5.out⟩, B5.out⟩
    · have hl := Pf.len_of hok
      have hl0 := hl.1
      have hl1 := hl.2
      rw [hok] at pk
      have HOK := Lib.hid hok
      clear hok hl
      have PK := Lib.hid pk
      clear pk
      go_wp2_with fail
      refine (PK.out _).mono ?_
      rintro e w5 ⟨rfl, b5⟩
      have HP5 := Lib.hid (row_on b5 (row_lt HP4.out) HP4.out)
      have HQ5 := Lib.hid (row_on b5 (row_lt HQ4.out) HQ4.out)
      have HR5 := Lib.hid (row_on b5 (row_lt HR4.out) HR4.out)
      have HS5 := Lib.hid (row_on b5 (row_lt HS4.out) HS4.out)
      have B5 := Lib.hid (bthen B4.out b5)
      have C5 := Lib.hid (hc4.below b5)
      have hz5 : w4.heap.size ≤ w5.heap.size := b5.size
      clear b5 c0 c1 c2 c3 c4 c5 f0 f1 f2 f3 f4 f5
      obtain ⟨⟨c0, c1, c2, c3, c4, c5⟩, f0, f1, f2, f3, f4, f5⟩ := row6d HP5.out
      have az := specAny p
      by_cases hz : p = Pf.zero
      · rw [decide_eq_true hz] at az
        have AZ := Lib.hid az
        clear az hz
        go_wp2_with fail
        refine (AZ.out _).mono ?_
        rintro e w6 ⟨rfl, b6⟩
        have HP6 := Lib.hid (row_on b6 (row_lt HP5.out) HP5.out)
        have HQ6 := Lib.hid (row_on b6 (row_lt HQ5.out) HQ5.out)
        have HR6 := Lib.hid (row_on b6 (row_lt HR5.out) HR5.out)
        have HS6 := Lib.hid (row_on b6 (row_lt HS5.out) HS5.out)
        have B6 := Lib.hid (bthen B5.out b6)
        clear b6 c0 c1 c2 c3 c4 c5 f0 f1 f2 f3 f4 f5
        go_wp2
        exact FIN.out _ _ rfl rfl rfl rfl rfl rfl ⟨⟨p, HP6.out⟩, ⟨x, HQ6.out⟩, ⟨_, HR6.out⟩, ⟨_, HS6.out⟩, B6.out⟩
      · rw [decide_eq_false hz] at az
        have AZ := Lib.hid az
        have hbo : p.base.ok = true := Pf.base_ok HOK.out hz
        obtain ⟨j, hj, hj15⟩ : ∃ j, p.base.bytes.length = j + 1 ∧ j ≤ 15 := by
          rcases bytes_len hbo with h | h
          · exact ⟨3, h, by omega⟩
          · exact ⟨15, h, by omega⟩
        obtain ⟨ys, hys⟩ : ∃ ys, p.base.bytes = ys := ⟨_, rfl⟩
        have so : ∀ v : World, Calls Try.prog 14 #[.agg #[.int .i64 p.base.k, .int .i64 p.base.a, .int .i64 p.base.b, .int .i64 p.base.c, .int .i64 p.base.d]] v fun e v' => ∃ A c, e = .returned (.slice A (j + 1) c) ∧ v'.ownsRow v.heap.size 5 1 (.slice A (j + 1) c) (j + 1) (cellsOf ys) ∧ Below v.heap.size v v' := by
          intro v
          have h := specAddrBytes p.base v
          unfold BytesOut at h
          rwa [hj, hys] at h
        have SO := Lib.hid so
        rw [hys] at hj
        have HJ := Lib.hid hj
        clear az hz hbo so hj hys
        go_wp2_with fail
        refine (AZ.out _).mono ?_
        rintro e w6 ⟨rfl, b6⟩
        have HP6 := Lib.hid (row_on b6 (row_lt HP5.out) HP5.out)
        have HQ6 := Lib.hid (row_on b6 (row_lt HQ5.out) HQ5.out)
        have HR6 := Lib.hid (row_on b6 (row_lt HR5.out) HR5.out)
        have HS6 := Lib.hid (row_on b6 (row_lt HS5.out) HS5.out)
        have B6 := Lib.hid (bthen B5.out b6)
        have C6 := Lib.hid (C5.out.below b6)
        have hz6 : w5.heap.size ≤ w6.heap.size := b6.size
        clear b6 c0 c1 c2 c3 c4 c5 f0 f1 f2 f3 f4 f5
        obtain ⟨⟨c0, c1, c2, c3, c4, c5⟩, f0, f1, f2, f3, f4, f5⟩ := row6d HP6.out
        go_wp2_with fail
        refine (SO.out _).mono ?_
        rintro e w7 ⟨A7, k7, rfl, o7, b7⟩
        have HP7 := Lib.hid (row_on b7 (row_lt HP6.out) HP6.out)
        have HQ7 := Lib.hid (row_on b7 (row_lt HQ6.out) HQ6.out)
        have HR7 := Lib.hid (row_on b7 (row_lt HR6.out) HR6.out)
        have HS7 := Lib.hid (row_on b7 (row_lt HS6.out) HS6.out)
        have B7 := Lib.hid (bthen B6.out b7)
        have C7 := Lib.hid (C6.out.below b7)
        have hz7 : w6.heap.size ≤ w7.heap.size := b7.size
        obtain ⟨g7, rfl, hg7⟩ : ∃ g7, A7 = some ⟨g7, 0, none⟩ ∧ w6.heap.size ≤ g7 := by
          rcases o7.2 with ⟨_, h2⟩ | ⟨g7, cap, cur, hv, hbase, _⟩
          · omega
          · injection hv with hA
            exact ⟨g7, hA, hbase⟩
        have O7 := Lib.hid o7
        clear b7 o7 c0 c1 c2 c3 c4 c5 f0 f1 f2 f3 f4 f5
        go_wp2_with fail
        refine (pickC _ (w.heap.size + 1 + 1) A c bs (t3 + 1) 256 (by omega) (by omega) C7.out (by omega)).mono ?_
        rintro e w8 ⟨y, rfl, y0, y1, hc8, hg8⟩
        obtain ⟨yk, rfl⟩ : ∃ k : Nat, y = k := ⟨y.toNat, by omega⟩
        have HP8 := Lib.hid (row_kept hg8 (by omega) HP7.out)
        have HQ8 := Lib.hid (row_kept hg8 (by omega) HQ7.out)
        have HR8 := Lib.hid (row_kept hg8 (by omega) HR7.out)
        have HS8 := Lib.hid (row_kept hg8 (by omega) HS7.out)
        have B8 := Lib.hid (bgrown B7.out hg8 (fun k hk => by cases hk; omega))
        have o8 := own_grown O7.out hg8 (fun k hk => by have e : g7 = k := Option.some.inj hk; intro h; have := Option.some.inj h; omega)
        have hcell : w8.cell? ⟨g7, j, none⟩ = some ((cellsOf ys)[j]'(by rw [cellsOf_length, HJ.out]; omega)) := by
          rw [o8.cellAt j (by omega)]
          exact List.getElem?_eq_getElem _
        have hfz := o8.frozenAt j
        obtain ⟨b2, hb2⟩ : ∃ b2 : UInt8, (b2.toNat : Int) = yk := ⟨UInt8.ofNat yk, by simp; omega⟩
        have R := o8.stored j (.int .u8 (b2.toNat : Int))
        rw [cells_set, hb2] at R
        have R4 := Lib.hid (RB.of_own R.1)
        have HLC := Lib.hid (show (ys.set j b2).length = j + 1 by rw [List.length_set, HJ.out])
        have HP9 := Lib.hid ((heap_setCell_other w8 ⟨g7, j, none⟩ _ (.int .u8 (yk : Int)) (show _ ≠ g7 by omega)).trans HP8.out)
        have HQ9 := Lib.hid ((heap_setCell_other w8 ⟨g7, j, none⟩ _ (.int .u8 (yk : Int)) (show _ ≠ g7 by omega)).trans HQ8.out)
        have HR9 := Lib.hid ((heap_setCell_other w8 ⟨g7, j, none⟩ _ (.int .u8 (yk : Int)) (show _ ≠ g7 by omega)).trans HR8.out)
        have HS9 := Lib.hid ((heap_setCell_other w8 ⟨g7, j, none⟩ _ (.int .u8 (yk : Int)) (show _ ≠ g7 by omega)).trans HS8.out)
        have B9 := Lib.hid (B8.out.setCell (p := ⟨g7, j, none⟩) (show w.heap.size ≤ g7 by omega) (.int .u8 (yk : Int)))
        clear R hb2 o8 hg8 hc8
        go_wp2_with fail
        refine (specAddrOf (some ⟨g7, 0, none⟩) (j + 1) k7 (ys.set j b2) _ R4.out HLC.out (by omega)).mono ?_
        rintro e w10 ⟨rfl, b10⟩
        have HP10 := Lib.hid (row_on b10 (row_lt HP9.out) HP9.out)
        have HQ10 := Lib.hid (row_on b10 (row_lt HQ9.out) HQ9.out)
        have HR10 := Lib.hid (row_on b10 (row_lt HR9.out) HR9.out)
        have HS10 := Lib.hid (row_on b10 (row_lt HS9.out) HS9.out)
        have B10 := Lib.hid (bthen B9.out b10)
        clear b10
        obtain ⟨z, hz⟩ : ∃ z, ofA (ys.set j b2) = z := ⟨_, rfl⟩
        obtain ⟨ok, hok⟩ : ∃ ok, okA (ys.set j b2) = ok := ⟨_, rfl⟩
        rw [hz, hok]
        clear hz hok hcell hfz
        obtain ⟨⟨c0, c1, c2, c3, c4⟩, f0, f1, f2, f3, f4⟩ := row5 HQ10.out
        go_wp2
        exact FIN.out _ _ rfl rfl rfl rfl rfl rfl ⟨⟨p, (set_other5 (by omega)).trans HP10.out⟩, ⟨z, set5 _ _ _ _ _ HQ10.out⟩, ⟨_, (set_other5 (by omega)).trans HR10.out⟩, ⟨_, (set_other5 (by omega)).trans HS10.out⟩, below5' B10.out (by omega)⟩

end Go.Proofs.Ytckakpcjbndijaa
