/-
  For every code of bytes the law FnPrefixHolds returns true: where one prefix is in another one, its base and each address in it are in the other one. No condition; the argument reads afterwards as before.
-/
import Derived.Test.YtckakpcjbndijaaPfxDraw5
import Derived.Test.YtckakpcjbndijaaPfxIn
import Derived.Test.YtckakpcjbndijaaInBytes
import Derived.Test.YtckakpcjbndijaaRows
import Derived.ShutString
namespace Go.Proofs.Ytckakpcjbndijaa
open Go.RowKit

theorem inn_base {p q : Pf} (h : p.inn q = true) (hk : ¬ p.base.k = 0) : q.has p.base = true := by
  have hpz : ¬ p = Pf.zero := fun e => hk (by rw [e]; rfl)
  simp only [Pf.inn, Bool.and_eq_true, Bool.or_eq_true, decide_eq_true_eq, Bool.not_eq_true', decide_eq_false_iff_not] at h
  obtain ⟨⟨hp, hq⟩, h | ⟨_, h⟩⟩ := h
  · rw [Pf.has, hq, Pf.base_ok hp hpz, decide_eq_true h]; rfl
  · exact h

set_option maxHeartbeats 4000000 in
set_option maxRecDepth 100000 in
theorem holdsTail (A : Option Addr) (c : Nat) (bs : List UInt8) (w : World) (hrb : RB w w.heap.size A bs) (hn : bs.length ≤ 1048576) :
    Calls Try.prog 10 #[.slice A bs.length c] w fun e w' => e = .returned (.bool true) ∧ Below w.heap.size w w' := by
  have hnI : ¬ (1048576 : Int) < (bs.length : Int) := by omega
  go_enter Try.func10, Try.ntmps10
  go_wp2_with fail
  refine (bigB A bs.length c w).mono ?_
  rintro e w0 ⟨rfl, rfl⟩
  go_wp2_with fail
  refine (drawPrefixIn A c bs w hrb hn).mono ?_
  rintro e w1 ⟨p, q, rfl, b1⟩
  have hz1 := b1.size
  have B1 := Lib.hid (bthen b1 (Joins.below_alloc2 w1 (.cells #[.int .i64 p.base.k, .int .i64 p.base.a, .int .i64 p.base.b, .int .i64 p.base.c, .int .i64 p.base.d, .int .i64 p.len] 43) (.cells #[.int .i64 q.base.k, .int .i64 q.base.a, .int .i64 q.base.b, .int .i64 q.base.c, .int .i64 q.base.d, .int .i64 q.len] 43)))
  have RB1 := Lib.hid ((hrb.below b1).below ((Joins.below_alloc2 w1 (.cells #[.int .i64 p.base.k, .int .i64 p.base.a, .int .i64 p.base.b, .int .i64 p.base.c, .int .i64 p.base.d, .int .i64 p.len] 43) (.cells #[.int .i64 q.base.k, .int .i64 q.base.a, .int .i64 q.base.b, .int .i64 q.base.c, .int .i64 q.base.d, .int .i64 q.len] 43)).mono hz1))
  clear b1 hrb
  go_wp2_with fail
  refine (drawPrefixHas A c bs _ (RB1.out.more (by simp; omega)) hn).mono ?_
  rintro e w2 ⟨p', x, rfl, b2⟩
  have HP3 : Hid (((w2.alloc (.cells #[.int .i64 p'.base.k, .int .i64 p'.base.a, .int .i64 p'.base.b, .int .i64 p'.base.c, .int .i64 p'.base.d, .int .i64 p'.len] 43)).alloc (.cells #[.int .i64 x.k, .int .i64 x.a, .int .i64 x.b, .int .i64 x.c, .int .i64 x.d] 25)).heap[w1.heap.size]? = rowP p) := Lib.hid (row_on (Joins.below_alloc2 w2 _ _) (by have := b2.size; simp at this; omega) (row_on b2 (by simp; omega) (row_on (Joins.below_alloc1 (w1.alloc (.cells #[.int .i64 p.base.k, .int .i64 p.base.a, .int .i64 p.base.b, .int .i64 p.base.c, .int .i64 p.base.d, .int .i64 p.len] 43)) (.cells #[.int .i64 q.base.k, .int .i64 q.base.a, .int .i64 q.base.b, .int .i64 q.base.c, .int .i64 q.base.d, .int .i64 q.len] 43)) (by simp) (Go.heap_alloc_last w1 _))))
  have HQ3 : Hid (((w2.alloc (.cells #[.int .i64 p'.base.k, .int .i64 p'.base.a, .int .i64 p'.base.b, .int .i64 p'.base.c, .int .i64 p'.base.d, .int .i64 p'.len] 43)).alloc (.cells #[.int .i64 x.k, .int .i64 x.a, .int .i64 x.b, .int .i64 x.c, .int .i64 x.d] 25)).heap[w1.heap.size + 1]? = rowP q) := Lib.hid (row_on (Joins.below_alloc2 w2 _ _) (by have := b2.size; simp at this; omega) (row_on b2 (by simp) (heap_alloc2_new w1 _ _)))
  have HX3 : Hid (((w2.alloc (.cells #[.int .i64 p'.base.k, .int .i64 p'.base.a, .int .i64 p'.base.b, .int .i64 p'.base.c, .int .i64 p'.base.d, .int .i64 p'.len] 43)).alloc (.cells #[.int .i64 x.k, .int .i64 x.a, .int .i64 x.b, .int .i64 x.c, .int .i64 x.d] 25)).heap[w2.heap.size + 1]? = rowA x) := Lib.hid (heap_alloc2_new w2 _ _)
  have B3 := Lib.hid (bthen (bthen B1.out b2) (Joins.below_alloc2 w2 (.cells #[.int .i64 p'.base.k, .int .i64 p'.base.a, .int .i64 p'.base.b, .int .i64 p'.base.c, .int .i64 p'.base.d, .int .i64 p'.len] 43) (.cells #[.int .i64 x.k, .int .i64 x.a, .int .i64 x.b, .int .i64 x.c, .int .i64 x.d] 25)))
  clear b2 RB1 B1
  obtain ⟨w3, hw3⟩ : ∃ w3, w3 = (w2.alloc (.cells #[.int .i64 p'.base.k, .int .i64 p'.base.a, .int .i64 p'.base.b, .int .i64 p'.base.c, .int .i64 p'.base.d, .int .i64 p'.len] 43)).alloc (.cells #[.int .i64 x.k, .int .i64 x.a, .int .i64 x.b, .int .i64 x.c, .int .i64 x.d] 25) := ⟨_, rfl⟩
  rw [← hw3] at HP3 HQ3 HX3 B3
  have HW3 := Lib.hid hw3
  clear hw3
  obtain ⟨⟨c0, c1, c2, c3, c4, c5⟩, _⟩ := row6d HP3.out
  obtain ⟨⟨d0, d1, d2, d3, d4, d5⟩, _⟩ := row6d HQ3.out
  obtain ⟨⟨e0, e1, e2, e3, e4⟩, _⟩ := row5 HX3.out
  cases hi : p.inn q
  · have si := specPrefixIn p q
    have ii := implPrefixIn p q
    rw [hi] at si ii
    have SI := Lib.hid si
    have II := Lib.hid ii
    clear si ii
    clear hi
    go_wp2_with fail
    rw [← HW3.out]
    have k0 := cell_regrown c0
    have l0 := cell_regrown d0
    have k1 := cell_regrown c1
    have l1 := cell_regrown d1
    have k2 := cell_regrown c2
    have l2 := cell_regrown d2
    have k3 := cell_regrown c3
    have l3 := cell_regrown d3
    have k4 := cell_regrown c4
    have l4 := cell_regrown d4
    have k5 := cell_regrown c5
    have l5 := cell_regrown d5
    refine wp_region_quiet_below (by kernel_rfl) (by kernel_rfl) ?_
    repeat (go_big_quiet_step (first | (go_at_call 30; exact Calls.regrown_of (SI.out _)) | (go_at_call 31; exact Calls.regrown_of (II.out _))))
    refine wpQuiet_nil ?_
    intro w4 hw
    obtain ⟨⟨dq, osq⟩, hw⟩ := hw
    have b4 := below_regrown w3 dq osq
    rw [← hw] at b4
    clear hw k0 k1 k2 k3 k4 k5 l0 l1 l2 l3 l4 l5
    have HP4 := Lib.hid (row_on b4 (row_lt HP3.out) HP3.out)
    have HQ4 := Lib.hid (row_on b4 (row_lt HQ3.out) HQ3.out)
    have HX4 := Lib.hid (row_on b4 (row_lt HX3.out) HX3.out)
    have B4 := Lib.hid (bthen B3.out b4)
    clear b4
    clear c0 c1 c2 c3 c4 c5 d0 d1 d2 d3 d4 d5 e0 e1 e2 e3 e4
    obtain ⟨⟨c0, c1, c2, c3, c4, c5⟩, _⟩ := row6d HP4.out
    obtain ⟨⟨d0, d1, d2, d3, d4, d5⟩, _⟩ := row6d HQ4.out
    obtain ⟨⟨e0, e1, e2, e3, e4⟩, _⟩ := row5 HX4.out
    go_wp2_with fail
    refine (SI.out _).mono ?_
    rintro e w5 ⟨rfl, b5⟩
    have HP5 := Lib.hid (row_on b5 (row_lt HP4.out) HP4.out)
    have HQ5 := Lib.hid (row_on b5 (row_lt HQ4.out) HQ4.out)
    have HX5 := Lib.hid (row_on b5 (row_lt HX4.out) HX4.out)
    have B5 := Lib.hid (bthen B4.out b5)
    clear b5
    clear c0 c1 c2 c3 c4 c5 d0 d1 d2 d3 d4 d5 e0 e1 e2 e3 e4
    obtain ⟨⟨c0, c1, c2, c3, c4, c5⟩, _⟩ := row6d HP5.out
    obtain ⟨⟨d0, d1, d2, d3, d4, d5⟩, _⟩ := row6d HQ5.out
    obtain ⟨⟨e0, e1, e2, e3, e4⟩, _⟩ := row5 HX5.out
    go_wp2
    go_ret
    exact ⟨rfl, B5.out⟩
  · have si := specPrefixIn p q
    have ii := implPrefixIn p q
    rw [hi] at si ii
    have SI := Lib.hid si
    have II := Lib.hid ii
    clear si ii
    have HI := Lib.hid hi
    clear hi
    go_wp2_with fail
    rw [← HW3.out]
    have k0 := cell_regrown c0
    have l0 := cell_regrown d0
    have k1 := cell_regrown c1
    have l1 := cell_regrown d1
    have k2 := cell_regrown c2
    have l2 := cell_regrown d2
    have k3 := cell_regrown c3
    have l3 := cell_regrown d3
    have k4 := cell_regrown c4
    have l4 := cell_regrown d4
    have k5 := cell_regrown c5
    have l5 := cell_regrown d5
    refine wp_region_quiet_below (by kernel_rfl) (by kernel_rfl) ?_
    repeat (go_big_quiet_step (first | (go_at_call 30; exact Calls.regrown_of (SI.out _)) | (go_at_call 31; exact Calls.regrown_of (II.out _))))
    refine wpQuiet_nil ?_
    intro w4 hw
    obtain ⟨⟨dq, osq⟩, hw⟩ := hw
    have b4 := below_regrown w3 dq osq
    rw [← hw] at b4
    clear hw k0 k1 k2 k3 k4 k5 l0 l1 l2 l3 l4 l5
    have HP4 := Lib.hid (row_on b4 (row_lt HP3.out) HP3.out)
    have HQ4 := Lib.hid (row_on b4 (row_lt HQ3.out) HQ3.out)
    have HX4 := Lib.hid (row_on b4 (row_lt HX3.out) HX3.out)
    have B4 := Lib.hid (bthen B3.out b4)
    clear b4
    clear c0 c1 c2 c3 c4 c5 d0 d1 d2 d3 d4 d5 e0 e1 e2 e3 e4
    obtain ⟨⟨c0, c1, c2, c3, c4, c5⟩, _⟩ := row6d HP4.out
    obtain ⟨⟨d0, d1, d2, d3, d4, d5⟩, _⟩ := row6d HQ4.out
    obtain ⟨⟨e0, e1, e2, e3, e4⟩, _⟩ := row5 HX4.out
    go_wp2_with fail
    refine (SI.out _).mono ?_
    rintro e w5 ⟨rfl, b5⟩
    have HP5 := Lib.hid (row_on b5 (row_lt HP4.out) HP4.out)
    have HQ5 := Lib.hid (row_on b5 (row_lt HQ4.out) HQ4.out)
    have HX5 := Lib.hid (row_on b5 (row_lt HX4.out) HX4.out)
    have B5 := Lib.hid (bthen B4.out b5)
    clear b5
    clear c0 c1 c2 c3 c4 c5 d0 d1 d2 d3 d4 d5 e0 e1 e2 e3 e4
    obtain ⟨⟨c0, c1, c2, c3, c4, c5⟩, _⟩ := row6d HP5.out
    obtain ⟨⟨d0, d1, d2, d3, d4, d5⟩, _⟩ := row6d HQ5.out
    obtain ⟨⟨e0, e1, e2, e3, e4⟩, _⟩ := row5 HX5.out
    have sh := specPrefixHas p x
    cases hh : p.has x
    · rw [hh] at sh
      clear hh
      have SH := Lib.hid sh
      clear sh
      by_cases hk : p.base.k = 0
      · have hk0 : (p.base.k == 0) = true := by simpa using hk
        clear hk
        go_wp2_with fail
        refine (SH.out _).mono ?_
        rintro e w6 ⟨rfl, b6⟩
        have HP6 := Lib.hid (row_on b6 (row_lt HP5.out) HP5.out)
        have HQ6 := Lib.hid (row_on b6 (row_lt HQ5.out) HQ5.out)
        have HX6 := Lib.hid (row_on b6 (row_lt HX5.out) HX5.out)
        have B6 := Lib.hid (bthen B5.out b6)
        clear b6
        clear c0 c1 c2 c3 c4 c5 d0 d1 d2 d3 d4 d5 e0 e1 e2 e3 e4
        obtain ⟨⟨c0, c1, c2, c3, c4, c5⟩, _⟩ := row6d HP6.out
        obtain ⟨⟨d0, d1, d2, d3, d4, d5⟩, _⟩ := row6d HQ6.out
        obtain ⟨⟨e0, e1, e2, e3, e4⟩, _⟩ := row5 HX6.out
        go_wp2
        go_ret
        exact ⟨rfl, B6.out⟩
      · have hk0 : (p.base.k == 0) = false := by simpa using hk
        have qh := implPrefixHas q p.base
        rw [inn_base HI.out hk] at qh
        have QH := Lib.hid qh
        clear qh hk
        go_wp2_with fail
        refine (SH.out _).mono ?_
        rintro e w6 ⟨rfl, b6⟩
        have HP6 := Lib.hid (row_on b6 (row_lt HP5.out) HP5.out)
        have HQ6 := Lib.hid (row_on b6 (row_lt HQ5.out) HQ5.out)
        have HX6 := Lib.hid (row_on b6 (row_lt HX5.out) HX5.out)
        have B6 := Lib.hid (bthen B5.out b6)
        clear b6
        clear c0 c1 c2 c3 c4 c5 d0 d1 d2 d3 d4 d5 e0 e1 e2 e3 e4
        obtain ⟨⟨c0, c1, c2, c3, c4, c5⟩, _⟩ := row6d HP6.out
        obtain ⟨⟨d0, d1, d2, d3, d4, d5⟩, _⟩ := row6d HQ6.out
        obtain ⟨⟨e0, e1, e2, e3, e4⟩, _⟩ := row5 HX6.out
        go_wp2_with fail
        refine (SH.out _).mono ?_
        rintro e w7 ⟨rfl, b7⟩
        have HP7 := Lib.hid (row_on b7 (row_lt HP6.out) HP6.out)
        have HQ7 := Lib.hid (row_on b7 (row_lt HQ6.out) HQ6.out)
        have HX7 := Lib.hid (row_on b7 (row_lt HX6.out) HX6.out)
        have B7 := Lib.hid (bthen B6.out b7)
        clear b7
        clear c0 c1 c2 c3 c4 c5 d0 d1 d2 d3 d4 d5 e0 e1 e2 e3 e4
        obtain ⟨⟨c0, c1, c2, c3, c4, c5⟩, _⟩ := row6d HP7.out
        obtain ⟨⟨d0, d1, d2, d3, d4, d5⟩, _⟩ := row6d HQ7.out
        obtain ⟨⟨e0, e1, e2, e3, e4⟩, _⟩ := row5 HX7.out
        go_wp2_with fail
        refine (QH.out _).mono ?_
        rintro e w8 ⟨rfl, b8⟩
        have HP8 := Lib.hid (row_on b8 (row_lt HP7.out) HP7.out)
        have HQ8 := Lib.hid (row_on b8 (row_lt HQ7.out) HQ7.out)
        have HX8 := Lib.hid (row_on b8 (row_lt HX7.out) HX7.out)
        have B8 := Lib.hid (bthen B7.out b8)
        clear b8
        clear c0 c1 c2 c3 c4 c5 d0 d1 d2 d3 d4 d5 e0 e1 e2 e3 e4
        obtain ⟨⟨c0, c1, c2, c3, c4, c5⟩, _⟩ := row6d HP8.out
        obtain ⟨⟨d0, d1, d2, d3, d4, d5⟩, _⟩ := row6d HQ8.out
        obtain ⟨⟨e0, e1, e2, e3, e4⟩, _⟩ := row5 HX8.out
        go_wp2
        go_ret
        exact ⟨rfl, B8.out⟩
    · have ph := implPrefixHas p x
      have qx := implPrefixHas q x
      rw [hh] at sh ph
      rw [Pf.holds p q x HI.out hh] at qx
      clear hh
      have SH := Lib.hid sh
      have PH := Lib.hid ph
      have QX := Lib.hid qx
      clear sh ph qx
      go_wp2_with fail
      refine (SH.out _).mono ?_
      rintro e w6 ⟨rfl, b6⟩
      have HP6 := Lib.hid (row_on b6 (row_lt HP5.out) HP5.out)
      have HQ6 := Lib.hid (row_on b6 (row_lt HQ5.out) HQ5.out)
      have HX6 := Lib.hid (row_on b6 (row_lt HX5.out) HX5.out)
      have B6 := Lib.hid (bthen B5.out b6)
      clear b6
      clear c0 c1 c2 c3 c4 c5 d0 d1 d2 d3 d4 d5 e0 e1 e2 e3 e4
      obtain ⟨⟨c0, c1, c2, c3, c4, c5⟩, _⟩ := row6d HP6.out
      obtain ⟨⟨d0, d1, d2, d3, d4, d5⟩, _⟩ := row6d HQ6.out
      obtain ⟨⟨e0, e1, e2, e3, e4⟩, _⟩ := row5 HX6.out
      go_wp2_with fail
      refine (SH.out _).mono ?_
      rintro e w7 ⟨rfl, b7⟩
      have HP7 := Lib.hid (row_on b7 (row_lt HP6.out) HP6.out)
      have HQ7 := Lib.hid (row_on b7 (row_lt HQ6.out) HQ6.out)
      have HX7 := Lib.hid (row_on b7 (row_lt HX6.out) HX6.out)
      have B7 := Lib.hid (bthen B6.out b7)
      clear b7
      clear c0 c1 c2 c3 c4 c5 d0 d1 d2 d3 d4 d5 e0 e1 e2 e3 e4
      obtain ⟨⟨c0, c1, c2, c3, c4, c5⟩, _⟩ := row6d HP7.out
      obtain ⟨⟨d0, d1, d2, d3, d4, d5⟩, _⟩ := row6d HQ7.out
      obtain ⟨⟨e0, e1, e2, e3, e4⟩, _⟩ := row5 HX7.out
      go_wp2_with fail
      refine (PH.out _).mono ?_
      rintro e w8 ⟨rfl, b8⟩
      have HP8 := Lib.hid (row_on b8 (row_lt HP7.out) HP7.out)
      have HQ8 := Lib.hid (row_on b8 (row_lt HQ7.out) HQ7.out)
      have HX8 := Lib.hid (row_on b8 (row_lt HX7.out) HX7.out)
      have B8 := Lib.hid (bthen B7.out b8)
      clear b8
      clear c0 c1 c2 c3 c4 c5 d0 d1 d2 d3 d4 d5 e0 e1 e2 e3 e4
      obtain ⟨⟨c0, c1, c2, c3, c4, c5⟩, _⟩ := row6d HP8.out
      obtain ⟨⟨d0, d1, d2, d3, d4, d5⟩, _⟩ := row6d HQ8.out
      obtain ⟨⟨e0, e1, e2, e3, e4⟩, _⟩ := row5 HX8.out
      go_wp2_with fail
      refine (QX.out _).mono ?_
      rintro e w9 ⟨rfl, b9⟩
      have HP9 := Lib.hid (row_on b9 (row_lt HP8.out) HP8.out)
      have HQ9 := Lib.hid (row_on b9 (row_lt HQ8.out) HQ8.out)
      have HX9 := Lib.hid (row_on b9 (row_lt HX8.out) HX8.out)
      have B9 := Lib.hid (bthen B8.out b9)
      clear b9
      clear c0 c1 c2 c3 c4 c5 d0 d1 d2 d3 d4 d5 e0 e1 e2 e3 e4
      obtain ⟨⟨c0, c1, c2, c3, c4, c5⟩, _⟩ := row6d HP9.out
      obtain ⟨⟨d0, d1, d2, d3, d4, d5⟩, _⟩ := row6d HQ9.out
      obtain ⟨⟨e0, e1, e2, e3, e4⟩, _⟩ := row5 HX9.out
      by_cases hk : p.base.k = 0
      · have hk0 : (p.base.k == 0) = true := by simpa using hk
        clear hk
        go_wp2
        go_ret
        exact ⟨rfl, B9.out⟩
      · have hk0 : (p.base.k == 0) = false := by simpa using hk
        have qh := implPrefixHas q p.base
        rw [inn_base HI.out hk] at qh
        have QH := Lib.hid qh
        clear qh hk
        go_wp2_with fail
        refine (QH.out _).mono ?_
        rintro e w10 ⟨rfl, b10⟩
        have HP10 := Lib.hid (row_on b10 (row_lt HP9.out) HP9.out)
        have HQ10 := Lib.hid (row_on b10 (row_lt HQ9.out) HQ9.out)
        have HX10 := Lib.hid (row_on b10 (row_lt HX9.out) HX9.out)
        have B10 := Lib.hid (bthen B9.out b10)
        clear b10
        clear c0 c1 c2 c3 c4 c5 d0 d1 d2 d3 d4 d5 e0 e1 e2 e3 e4
        obtain ⟨⟨c0, c1, c2, c3, c4, c5⟩, _⟩ := row6d HP10.out
        obtain ⟨⟨d0, d1, d2, d3, d4, d5⟩, _⟩ := row6d HQ10.out
        obtain ⟨⟨e0, e1, e2, e3, e4⟩, _⟩ := row5 HX10.out
        go_wp2
        go_ret
        exact ⟨rfl, B10.out⟩

theorem lawPrefixHolds {w : World} (A : Option Addr) (n c : Nat) (bs : List UInt8) (hin : In w A n c bs) :
    Calls Try.prog 10 #[.slice A n c] w fun e w' => e = .returned (.bool true) ∧ Below w.heap.size w w' := by
  obtain ⟨rfl, hcap, hbig, hrb⟩ := hin
  unfold maxLen at hbig
  by_cases hn : bs.length ≤ 1048576
  · exact holdsTail A c bs w hrb hn
  · have hnI : (1048576 : Int) < (bs.length : Int) := by omega
    go_enter Try.func10, Try.ntmps10
    go_wp2_with fail
    refine (bigB A bs.length c w).mono ?_
    rintro e w0 ⟨rfl, rfl⟩
    go_wp2
    go_ret
    exact ⟨rfl, Below.refl _ _⟩

namespace fnPrefixHolds
open Go.ChangeShapes Go.WideShapes Go.ChangeAt Go.RowKit
open Go.ChangeMaps (open_string shut_string)
theorem own : ownKnob Try.prog.godebug = none := by kernel_rfl
theorem laidOut : laidOutB Try.prog = true := by kernel_rfl

set_option maxRecDepth 100000 in
theorem lifted (os : Os) (started : os.Started) (H : Type) (enc : TypeId × Value → H) :
    ReturnsInHanded {} Try.checked os 10 .any (Rows.fnPrefixHoldsSpec.pre6 enc Try.prog Try.f10 Rows.fnPrefixHoldsRow.domain false) (Rows.fnPrefixHoldsSpec.post enc Try.prog Try.f10 false true false false) := by
  refine returnsInHanded_of_change (C := Try.checked) own started (by kernel_rfl) Try.func10
    (ChangeSpec.witness6 (enc := enc) (C := Try.checked) false ⟨#[], #[.slice none 0 0], []⟩ 8 (by kernel_rfl) (by kernel_rfl) (by kernel_rfl) (by kernel_rfl)) ?_
  intro W base args ds gs before hval0 hW _ _
  have hval : ∀ (j : Nat) t v, Try.f10.params[j]? = some t → args[j]? = some v → Value.okWide Try.prog W .any base t v := hval0
  have hW' := hW
  obtain ⟨p, q, hA0, hV, rfl, _, _⟩ := hW
  have hA : DataW.TrodAll enc Try.prog W 0 (fun _ => true) true Try.f10.params.toList args.toList ds p := hA0
  rw [Try.params10] at hA hval
  obtain ⟨v0, vs0, d0, ds0, p0, q0, hargs, rfl, rfl, h0, r0⟩ := trodAll_cons hA
  obtain ⟨rfl, rfl, rfl⟩ := trodAll_nil r0
  obtain rfl : args = #[v0] := by cases args; simp_all
  obtain ⟨rfl, rfl⟩ := trodVars_none hV
  obtain ⟨a0, n0, c0, rfl⟩ := okWide_slice Try.underlying28 (hval 0 28 v0 rfl rfl)
  have k0 := h0
  have lt0 : ∀ x ∈ p0, x.block < W.heap.size := by obtain ⟨m, hm⟩ := k0; exact DataW.trod_lt m _ _ _ hm
  obtain ⟨b0, w0⟩ := bytes_in h0
  clear hA0 hval0
  refine (lawPrefixHolds a0 n0 c0 b0 w0).mono fun e W' ⟨he, bel⟩ => ?_
  subst he
  exact ⟨_, rfl, _, _, _, [], _, [], hW', trodAll_mk1 (shut_bool Try.underlying4 _), (trodAll_cons_mk (Below.trod laidOut (by kernel_rfl) (of_decide_eq_true (by kernel_rfl)) k0 bel lt0) trodAll_mk0), rfl, bel.frame _, fun h => by cases h⟩

theorem proved : Rows.FnPrefixHoldsSaid :=
  OpenClaim.holds_of_wide 10 Try.f10 rfl rfl rfl rfl rfl rfl rfl ⟨rfl, rfl, rfl, rfl, rfl⟩ rfl rfl rfl rfl rfl (by kernel_rfl) Try.func10 (by kernel_rfl)
    (of_decide_eq_true (by kernel_rfl)) (by unfold Func.isWrapper; rw [if_neg (of_decide_eq_false (by kernel_rfl))]; exact ⟨rfl, rfl⟩)
    (fun os started H enc _ => lifted os started H enc)
#print axioms proved
end fnPrefixHolds
end Go.Proofs.Ytckakpcjbndijaa
