/-
  SixOk in the model, at every packet.
-/
import Derived.Test.YtkmijefheejcjaaKq16
namespace Go.Proofs.Ytkmijefheejcjaa
set_option maxRecDepth 100000
open Go.RowKit

set_option maxHeartbeats 4000000 in
theorem specSixOk_yes (x : Sh) (A D : Option Addr) (n c m d : Nat) (ys : List Ey) (w : World) (hx : XR w w.heap.size A ys) (hl : ys.length = n) (hb : bodies ys ≤ 1048576) (h0 : (upTo x.cls 255) = true) (h1 : (upTo x.label 1048575) = true) (h2 : (upTo x.hops 255) = true) (h3 : (upTo x.proto 255) = true) (h4 : (inner x.proto) = false) (h5 : (decide (x.src.k = 6)) = true) (h6 : (decide (x.dst.k = 6)) = true) (h7 : (x.src.ok) = true) (h8 : (x.dst.ok) = true) (h9 : (decide (n ≤ 3)) = true) : Calls Try.prog 17 #[.agg #[.int .i64 x.cls, .int .i64 x.label, .int .i64 x.hops, .int .i64 x.proto, .int .i64 x.src.k, .int .i64 x.src.a, .int .i64 x.src.b, .int .i64 x.src.c, .int .i64 x.src.d, .int .i64 x.dst.k, .int .i64 x.dst.a, .int .i64 x.dst.b, .int .i64 x.dst.c, .int .i64 x.dst.d, .slice A n c, .slice D m d]] w fun e w' => e = .returned (.bool (x.ok (ys.map Ey.says) m)) ∧ Below w.heap.size w w' := by
  have HF := Lib.hid (show x.ok (ys.map Ey.says) m = (extsOk (ys.map Ey.says) && decide ((m : Int) ≤ 1460 - extsSize (ys.map Ey.says))) by simp only [Sh.ok, Sh.small, adOk6, h0, h1, h2, h3, h4, h5, h6, h7, h8, Bool.true_and, Bool.not_false, Bool.and_true])
  have H0 := Lib.hid h0
  have H1 := Lib.hid h1
  have H2 := Lib.hid h2
  have H3 := Lib.hid h3
  have H4 := Lib.hid h4
  simp only [decide_eq_true_eq] at h5
  simp only [decide_eq_true_eq] at h6
  have H7 := Lib.hid (show (⟨6, x.src.a, x.src.b, x.src.c, x.src.d⟩ : Ad).ok = true by rw [← h5]; exact h7)
  have H8 := Lib.hid (show (⟨6, x.dst.a, x.dst.b, x.dst.c, x.dst.d⟩ : Ad).ok = true by rw [← h6]; exact h8)
  simp only [decide_eq_true_eq] at h9
  clear h0 h1 h2 h3 h4 h7 h8
  have HX := Lib.hid hx
  have HL := Lib.hid hl
  have HB := Lib.hid hb
  clear hx hl hb
  go_enter Try.func17, Try.ntmps17
  go_wp2_with (first | (go_at_call 62; with_reducible refine (specInB x.cls 255 _ _ H0.out).mono ?_; rintro e w' ⟨rfl, rfl⟩) | (go_at_call 62; with_reducible refine (specInB x.label 1048575 _ _ H1.out).mono ?_; rintro e w' ⟨rfl, rfl⟩) | (go_at_call 62; with_reducible refine (specInB x.hops 255 _ _ H2.out).mono ?_; rintro e w' ⟨rfl, rfl⟩) | (go_at_call 62; with_reducible refine (specInB x.proto 255 _ _ H3.out).mono ?_; rintro e w' ⟨rfl, rfl⟩) | (go_at_call 63; with_reducible refine (innerSB x.proto _ _ H4.out).mono ?_; rintro e w' ⟨rfl, rfl⟩) | (go_at_call 64; with_reducible refine (specAddrOkB ⟨6, x.src.a, x.src.b, x.src.c, x.src.d⟩ _ _ H7.out).mono ?_; rintro e w1 ⟨rfl, b1⟩; have q1 := K.newB b1; obtain ⟨c0, c1, c2, c3, c4, c5, c6, c7, c8, c9, c10, c11, c12, c13, c14, c15⟩ := K.cells16 q1; have Q1 := Lib.hid q1; have B1 := Lib.hid (bthen (Joins.below_alloc1 w _) b1); clear q1 b1) | (go_at_call 64; with_reducible refine (specAddrOkB ⟨6, x.dst.a, x.dst.b, x.dst.c, x.dst.d⟩ _ _ H8.out).mono ?_; rintro e w2 ⟨rfl, b2⟩; clear c0 c1 c2 c3 c4 c5 c6 c7 c8 c9 c10 c11 c12 c13 c14 c15; have q2 := K.below b2 Q1.out; obtain ⟨c0, c1, c2, c3, c4, c5, c6, c7, c8, c9, c10, c11, c12, c13, c14, c15⟩ := K.cells16 q2; have Q2 := Lib.hid q2; have B2 := Lib.hid (bthen B1.out b2); clear q2 b2))
  have HX2 := Lib.hid (HX.out.on B2.out)
  clear H0 H1 H2 H3 H4 H7 H8 h5 h6 HX B1 Q1
  clear c0 c1 c2 c3 c4 c5 c6 c7 c8 c9 c10 c11 c12 c13
  go_loopw [3, 4] (fun r i wr => ∃ k : Nat, k ≤ n ∧ i = .int .i64 k ∧ wr = w2 ∧ Hid (extsFrom 0 ((ys.map Ey.says).take k) = true) ∧ ∃ z : Nat, r = .int .i64 (1460 - (z : Int)) ∧ z ≤ 2 * k + 1048576 ∧ Hid (z = extsSize ((ys.map Ey.says).take k))) (fun r i _ => n - (intOf i).toNat)
  case atStart => exact ⟨0, Nat.zero_le _, rfl, rfl, Lib.hid rfl, 0, rfl, by omega, Lib.hid rfl⟩
  case round =>
    obtain ⟨k, hk, rfl, rfl, hz, z, rfl, hzb, hze⟩ := hrel
    by_cases hlt : k < n
    · have hk2 : k < ys.length := by rw [HL.out]; exact hlt
      obtain ⟨g, o, rfl, hg, e0, e1⟩ := HX2.out.at_ hk2
      have hlen := Nat.le_trans (bodies_at ys k hk2) HB.out
      have hno : Hid (extOk k ys[k].says = false → extsOk (ys.map Ey.says) = false) := Lib.hid fun h => extsOk_no (k := k) (by simpa using hk2) (by simpa using h)
      have hyes : Hid (extOk k ys[k].says = true → extsFrom 0 ((ys.map Ey.says).take (k + 1)) = true) := Lib.hid fun h => by
        rw [extsFrom_take (by simpa using hk2), hz.out]
        simpa using h
      have hsum : Hid (extsSize ((ys.map Ey.says).take (k + 1)) = extsSize ((ys.map Ey.says).take k) + (2 + ys[k].bs.length)) := Lib.hid (by rw [extsSize_take (by simpa using hk2)]; simp [Ey.says])
      have hbound : Hid (extsSize ((ys.map Ey.says).take (k + 1)) ≤ 2 * (k + 1) + 1048576) := Lib.hid (by have := extsSize_le ys (k + 1); have := HB.out; omega)
      generalize ys[k] = y at *
      cases hi : inner y.k with
      | false =>
        have hi := Lib.hid hi
        go_wp2_with (go_at_call 63; refine (innerSB y.k false _ hi.out).mono ?_; rintro e w' ⟨rfl, rfl⟩)
        go_ret
        exact ⟨ret_bool (by rw [HF.out, hno.out (extOk_inner hi.out)]; rfl), B2.out⟩
      | true =>
        have hi := Lib.hid hi
        go_wp2_with (go_at_call 63; refine (innerSB y.k true _ hi.out).mono ?_; rintro e w' ⟨rfl, rfl⟩)
        all_goals first
          | (go_ret; refine ⟨ret_bool ?_, B2.out⟩; rw [HF.out, hno.out]; rfl; first | exact extOk_first (by assumption) (by omega) | exact extOk_long (by simp only [Ey.says]; omega))
          | (rename_i h9; rcases h9 with h9 | h9
             · exfalso; omega
             · have h8 : (y.bs.length : Int) % 8 ≠ 6 := by simpa using h9
               clear h9
               go_ret
               refine ⟨ret_bool ?_, B2.out⟩
               rw [HF.out, hno.out (extOk_unit (by simp only [Ey.says]; omega))]
               rfl)
          | (rename_i h9
             have h8 : (y.bs.length : Int) % 8 = 6 := by simpa using h9.2
             clear h9
             go_roundw
             case rel => exact ⟨k + 1, by omega, (by first | (congr 1; omega) | go_num), (by first | rfl | trivial), Lib.hid (hyes.out (extOk_yes hi.out (by simp only [Ey.says]; omega) (by simp only [Ey.says]; omega) (by simp only [Ey.says]; omega))), z + (2 + y.bs.length), (by first | (congr 1; omega) | go_num), by rw [hze.out, ← hsum.out]; exact hbound.out, Lib.hid (by rw [hsum.out, ← hze.out])⟩
             case measure => simp [intOf]; omega)
          | trace_state
    · obtain rfl : k = n := by omega
      have H := Lib.hid (show extsOk (ys.map Ey.says) = true by have := hz.out; rw [List.take_of_length_le (by simp [HL.out])] at this; simp [extsOk, this, HL.out, h9])
      have HZ := Lib.hid (show z = extsSize (ys.map Ey.says) by have := hze.out; rw [List.take_of_length_le (by simp [HL.out])] at this; exact this)
      clear hz hze
      go_wp2
      go_ret
      exact ⟨ret_bool (by rw [HF.out, H.out, ← HZ.out]; rfl), B2.out⟩
end Go.Proofs.Ytkmijefheejcjaa
