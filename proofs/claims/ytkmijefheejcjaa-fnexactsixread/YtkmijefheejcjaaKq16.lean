/-
  SixOk in the model.
-/
import Derived.Test.YtkmijefheejcjaaKq15
namespace Go.Proofs.Ytkmijefheejcjaa
set_option maxRecDepth 100000
open Go.RowKit

theorem specInB (n hi : Int) (b : Bool) (w : World) (h : upTo n hi = b) : Calls Try.prog 62 #[.int .i64 n, .int .i64 hi] w fun e w' => e = .returned (.bool b) ∧ w = w' := h ▸ specIn n hi w
theorem specAddrOkB (x : Ad) (b : Bool) (w : World) (h : x.ok = b) : Calls Try.prog 64 #[.agg #[.int .i64 x.k, .int .i64 x.a, .int .i64 x.b, .int .i64 x.c, .int .i64 x.d]] w fun e w' => e = .returned (.bool b) ∧ Below w.heap.size w w' := h ▸ specAddrOk x w

set_option maxHeartbeats 2000000 in
theorem specSixOk_0 (x : Sh) (A D : Option Addr) (n c m d : Nat) (es : List (Int × List UInt8)) (w : World) (h0 : (upTo x.cls 255) = false) : Calls Try.prog 17 #[.agg #[.int .i64 x.cls, .int .i64 x.label, .int .i64 x.hops, .int .i64 x.proto, .int .i64 x.src.k, .int .i64 x.src.a, .int .i64 x.src.b, .int .i64 x.src.c, .int .i64 x.src.d, .int .i64 x.dst.k, .int .i64 x.dst.a, .int .i64 x.dst.b, .int .i64 x.dst.c, .int .i64 x.dst.d, .slice A n c, .slice D m d]] w fun e w' => e = .returned (.bool (x.ok es m)) ∧ Below w.heap.size w w' := by
  have H := Lib.hid (show x.ok es m = false by simp [Sh.ok, Sh.small, adOk6, extsOk, h0])
  have H0 := Lib.hid h0
  clear h0
  go_enter Try.func17, Try.ntmps17
  go_wp2_with (first | (go_at_call 62; with_reducible refine (specInB x.cls 255 _ _ H0.out).mono ?_; rintro e w' ⟨rfl, rfl⟩))
  go_ret
  exact ⟨ret_bool H.out.symm, by go_grown⟩

set_option maxHeartbeats 2000000 in
theorem specSixOk_1 (x : Sh) (A D : Option Addr) (n c m d : Nat) (es : List (Int × List UInt8)) (w : World) (h0 : (upTo x.cls 255) = true) (h1 : (upTo x.label 1048575) = false) : Calls Try.prog 17 #[.agg #[.int .i64 x.cls, .int .i64 x.label, .int .i64 x.hops, .int .i64 x.proto, .int .i64 x.src.k, .int .i64 x.src.a, .int .i64 x.src.b, .int .i64 x.src.c, .int .i64 x.src.d, .int .i64 x.dst.k, .int .i64 x.dst.a, .int .i64 x.dst.b, .int .i64 x.dst.c, .int .i64 x.dst.d, .slice A n c, .slice D m d]] w fun e w' => e = .returned (.bool (x.ok es m)) ∧ Below w.heap.size w w' := by
  have H := Lib.hid (show x.ok es m = false by simp [Sh.ok, Sh.small, adOk6, extsOk, h1])
  have H0 := Lib.hid h0
  have H1 := Lib.hid h1
  clear h0 h1
  go_enter Try.func17, Try.ntmps17
  go_wp2_with (first | (go_at_call 62; with_reducible refine (specInB x.cls 255 _ _ H0.out).mono ?_; rintro e w' ⟨rfl, rfl⟩) | (go_at_call 62; with_reducible refine (specInB x.label 1048575 _ _ H1.out).mono ?_; rintro e w' ⟨rfl, rfl⟩))
  go_ret
  exact ⟨ret_bool H.out.symm, by go_grown⟩

set_option maxHeartbeats 2000000 in
theorem specSixOk_2 (x : Sh) (A D : Option Addr) (n c m d : Nat) (es : List (Int × List UInt8)) (w : World) (h0 : (upTo x.cls 255) = true) (h1 : (upTo x.label 1048575) = true) (h2 : (upTo x.hops 255) = false) : Calls Try.prog 17 #[.agg #[.int .i64 x.cls, .int .i64 x.label, .int .i64 x.hops, .int .i64 x.proto, .int .i64 x.src.k, .int .i64 x.src.a, .int .i64 x.src.b, .int .i64 x.src.c, .int .i64 x.src.d, .int .i64 x.dst.k, .int .i64 x.dst.a, .int .i64 x.dst.b, .int .i64 x.dst.c, .int .i64 x.dst.d, .slice A n c, .slice D m d]] w fun e w' => e = .returned (.bool (x.ok es m)) ∧ Below w.heap.size w w' := by
  have H := Lib.hid (show x.ok es m = false by simp [Sh.ok, Sh.small, adOk6, extsOk, h2])
  have H0 := Lib.hid h0
  have H1 := Lib.hid h1
  have H2 := Lib.hid h2
  clear h0 h1 h2
  go_enter Try.func17, Try.ntmps17
  go_wp2_with (first | (go_at_call 62; with_reducible refine (specInB x.cls 255 _ _ H0.out).mono ?_; rintro e w' ⟨rfl, rfl⟩) | (go_at_call 62; with_reducible refine (specInB x.label 1048575 _ _ H1.out).mono ?_; rintro e w' ⟨rfl, rfl⟩) | (go_at_call 62; with_reducible refine (specInB x.hops 255 _ _ H2.out).mono ?_; rintro e w' ⟨rfl, rfl⟩))
  go_ret
  exact ⟨ret_bool H.out.symm, by go_grown⟩

set_option maxHeartbeats 2000000 in
theorem specSixOk_3 (x : Sh) (A D : Option Addr) (n c m d : Nat) (es : List (Int × List UInt8)) (w : World) (h0 : (upTo x.cls 255) = true) (h1 : (upTo x.label 1048575) = true) (h2 : (upTo x.hops 255) = true) (h3 : (upTo x.proto 255) = false) : Calls Try.prog 17 #[.agg #[.int .i64 x.cls, .int .i64 x.label, .int .i64 x.hops, .int .i64 x.proto, .int .i64 x.src.k, .int .i64 x.src.a, .int .i64 x.src.b, .int .i64 x.src.c, .int .i64 x.src.d, .int .i64 x.dst.k, .int .i64 x.dst.a, .int .i64 x.dst.b, .int .i64 x.dst.c, .int .i64 x.dst.d, .slice A n c, .slice D m d]] w fun e w' => e = .returned (.bool (x.ok es m)) ∧ Below w.heap.size w w' := by
  have H := Lib.hid (show x.ok es m = false by simp [Sh.ok, Sh.small, adOk6, extsOk, h3])
  have H0 := Lib.hid h0
  have H1 := Lib.hid h1
  have H2 := Lib.hid h2
  have H3 := Lib.hid h3
  clear h0 h1 h2 h3
  go_enter Try.func17, Try.ntmps17
  go_wp2_with (first | (go_at_call 62; with_reducible refine (specInB x.cls 255 _ _ H0.out).mono ?_; rintro e w' ⟨rfl, rfl⟩) | (go_at_call 62; with_reducible refine (specInB x.label 1048575 _ _ H1.out).mono ?_; rintro e w' ⟨rfl, rfl⟩) | (go_at_call 62; with_reducible refine (specInB x.hops 255 _ _ H2.out).mono ?_; rintro e w' ⟨rfl, rfl⟩) | (go_at_call 62; with_reducible refine (specInB x.proto 255 _ _ H3.out).mono ?_; rintro e w' ⟨rfl, rfl⟩))
  go_ret
  exact ⟨ret_bool H.out.symm, by go_grown⟩

set_option maxHeartbeats 2000000 in
theorem specSixOk_4 (x : Sh) (A D : Option Addr) (n c m d : Nat) (es : List (Int × List UInt8)) (w : World) (h0 : (upTo x.cls 255) = true) (h1 : (upTo x.label 1048575) = true) (h2 : (upTo x.hops 255) = true) (h3 : (upTo x.proto 255) = true) (h4 : (inner x.proto) = true) : Calls Try.prog 17 #[.agg #[.int .i64 x.cls, .int .i64 x.label, .int .i64 x.hops, .int .i64 x.proto, .int .i64 x.src.k, .int .i64 x.src.a, .int .i64 x.src.b, .int .i64 x.src.c, .int .i64 x.src.d, .int .i64 x.dst.k, .int .i64 x.dst.a, .int .i64 x.dst.b, .int .i64 x.dst.c, .int .i64 x.dst.d, .slice A n c, .slice D m d]] w fun e w' => e = .returned (.bool (x.ok es m)) ∧ Below w.heap.size w w' := by
  have H := Lib.hid (show x.ok es m = false by simp [Sh.ok, Sh.small, adOk6, extsOk, h4])
  have H0 := Lib.hid h0
  have H1 := Lib.hid h1
  have H2 := Lib.hid h2
  have H3 := Lib.hid h3
  have H4 := Lib.hid h4
  clear h0 h1 h2 h3 h4
  go_enter Try.func17, Try.ntmps17
  go_wp2_with (first | (go_at_call 62; with_reducible refine (specInB x.cls 255 _ _ H0.out).mono ?_; rintro e w' ⟨rfl, rfl⟩) | (go_at_call 62; with_reducible refine (specInB x.label 1048575 _ _ H1.out).mono ?_; rintro e w' ⟨rfl, rfl⟩) | (go_at_call 62; with_reducible refine (specInB x.hops 255 _ _ H2.out).mono ?_; rintro e w' ⟨rfl, rfl⟩) | (go_at_call 62; with_reducible refine (specInB x.proto 255 _ _ H3.out).mono ?_; rintro e w' ⟨rfl, rfl⟩) | (go_at_call 63; with_reducible refine (innerSB x.proto _ _ H4.out).mono ?_; rintro e w' ⟨rfl, rfl⟩))
  go_ret
  exact ⟨ret_bool H.out.symm, by go_grown⟩

set_option maxHeartbeats 2000000 in
theorem specSixOk_5 (x : Sh) (A D : Option Addr) (n c m d : Nat) (es : List (Int × List UInt8)) (w : World) (h0 : (upTo x.cls 255) = true) (h1 : (upTo x.label 1048575) = true) (h2 : (upTo x.hops 255) = true) (h3 : (upTo x.proto 255) = true) (h4 : (inner x.proto) = false) (h5 : (decide (x.src.k = 6)) = false) : Calls Try.prog 17 #[.agg #[.int .i64 x.cls, .int .i64 x.label, .int .i64 x.hops, .int .i64 x.proto, .int .i64 x.src.k, .int .i64 x.src.a, .int .i64 x.src.b, .int .i64 x.src.c, .int .i64 x.src.d, .int .i64 x.dst.k, .int .i64 x.dst.a, .int .i64 x.dst.b, .int .i64 x.dst.c, .int .i64 x.dst.d, .slice A n c, .slice D m d]] w fun e w' => e = .returned (.bool (x.ok es m)) ∧ Below w.heap.size w w' := by
  have H := Lib.hid (show x.ok es m = false by simp [Sh.ok, Sh.small, adOk6, extsOk, h5])
  have H0 := Lib.hid h0
  have H1 := Lib.hid h1
  have H2 := Lib.hid h2
  have H3 := Lib.hid h3
  have H4 := Lib.hid h4
  simp only [decide_eq_false_iff_not] at h5
  clear h0 h1 h2 h3 h4
  go_enter Try.func17, Try.ntmps17
  go_wp2_with (first | (go_at_call 62; with_reducible refine (specInB x.cls 255 _ _ H0.out).mono ?_; rintro e w' ⟨rfl, rfl⟩) | (go_at_call 62; with_reducible refine (specInB x.label 1048575 _ _ H1.out).mono ?_; rintro e w' ⟨rfl, rfl⟩) | (go_at_call 62; with_reducible refine (specInB x.hops 255 _ _ H2.out).mono ?_; rintro e w' ⟨rfl, rfl⟩) | (go_at_call 62; with_reducible refine (specInB x.proto 255 _ _ H3.out).mono ?_; rintro e w' ⟨rfl, rfl⟩) | (go_at_call 63; with_reducible refine (innerSB x.proto _ _ H4.out).mono ?_; rintro e w' ⟨rfl, rfl⟩))
  go_ret
  exact ⟨ret_bool H.out.symm, by go_grown⟩

set_option maxHeartbeats 2000000 in
theorem specSixOk_6 (x : Sh) (A D : Option Addr) (n c m d : Nat) (es : List (Int × List UInt8)) (w : World) (h0 : (upTo x.cls 255) = true) (h1 : (upTo x.label 1048575) = true) (h2 : (upTo x.hops 255) = true) (h3 : (upTo x.proto 255) = true) (h4 : (inner x.proto) = false) (h5 : (decide (x.src.k = 6)) = true) (h6 : (decide (x.dst.k = 6)) = false) : Calls Try.prog 17 #[.agg #[.int .i64 x.cls, .int .i64 x.label, .int .i64 x.hops, .int .i64 x.proto, .int .i64 x.src.k, .int .i64 x.src.a, .int .i64 x.src.b, .int .i64 x.src.c, .int .i64 x.src.d, .int .i64 x.dst.k, .int .i64 x.dst.a, .int .i64 x.dst.b, .int .i64 x.dst.c, .int .i64 x.dst.d, .slice A n c, .slice D m d]] w fun e w' => e = .returned (.bool (x.ok es m)) ∧ Below w.heap.size w w' := by
  have H := Lib.hid (show x.ok es m = false by simp [Sh.ok, Sh.small, adOk6, extsOk, h6])
  have H0 := Lib.hid h0
  have H1 := Lib.hid h1
  have H2 := Lib.hid h2
  have H3 := Lib.hid h3
  have H4 := Lib.hid h4
  simp only [decide_eq_true_eq] at h5
  simp only [decide_eq_false_iff_not] at h6
  clear h0 h1 h2 h3 h4
  go_enter Try.func17, Try.ntmps17
  go_wp2_with (first | (go_at_call 62; with_reducible refine (specInB x.cls 255 _ _ H0.out).mono ?_; rintro e w' ⟨rfl, rfl⟩) | (go_at_call 62; with_reducible refine (specInB x.label 1048575 _ _ H1.out).mono ?_; rintro e w' ⟨rfl, rfl⟩) | (go_at_call 62; with_reducible refine (specInB x.hops 255 _ _ H2.out).mono ?_; rintro e w' ⟨rfl, rfl⟩) | (go_at_call 62; with_reducible refine (specInB x.proto 255 _ _ H3.out).mono ?_; rintro e w' ⟨rfl, rfl⟩) | (go_at_call 63; with_reducible refine (innerSB x.proto _ _ H4.out).mono ?_; rintro e w' ⟨rfl, rfl⟩))
  go_ret
  exact ⟨ret_bool H.out.symm, by go_grown⟩

set_option maxHeartbeats 2000000 in
theorem specSixOk_7 (x : Sh) (A D : Option Addr) (n c m d : Nat) (es : List (Int × List UInt8)) (w : World) (h0 : (upTo x.cls 255) = true) (h1 : (upTo x.label 1048575) = true) (h2 : (upTo x.hops 255) = true) (h3 : (upTo x.proto 255) = true) (h4 : (inner x.proto) = false) (h5 : (decide (x.src.k = 6)) = true) (h6 : (decide (x.dst.k = 6)) = true) (h7 : (x.src.ok) = false) : Calls Try.prog 17 #[.agg #[.int .i64 x.cls, .int .i64 x.label, .int .i64 x.hops, .int .i64 x.proto, .int .i64 x.src.k, .int .i64 x.src.a, .int .i64 x.src.b, .int .i64 x.src.c, .int .i64 x.src.d, .int .i64 x.dst.k, .int .i64 x.dst.a, .int .i64 x.dst.b, .int .i64 x.dst.c, .int .i64 x.dst.d, .slice A n c, .slice D m d]] w fun e w' => e = .returned (.bool (x.ok es m)) ∧ Below w.heap.size w w' := by
  have H := Lib.hid (show x.ok es m = false by simp [Sh.ok, Sh.small, adOk6, extsOk, h7])
  have H0 := Lib.hid h0
  have H1 := Lib.hid h1
  have H2 := Lib.hid h2
  have H3 := Lib.hid h3
  have H4 := Lib.hid h4
  simp only [decide_eq_true_eq] at h5
  simp only [decide_eq_true_eq] at h6
  have H7 := Lib.hid (show (⟨6, x.src.a, x.src.b, x.src.c, x.src.d⟩ : Ad).ok = false by rw [← h5]; exact h7)
  clear h0 h1 h2 h3 h4 h7
  go_enter Try.func17, Try.ntmps17
  go_wp2_with (first | (go_at_call 62; with_reducible refine (specInB x.cls 255 _ _ H0.out).mono ?_; rintro e w' ⟨rfl, rfl⟩) | (go_at_call 62; with_reducible refine (specInB x.label 1048575 _ _ H1.out).mono ?_; rintro e w' ⟨rfl, rfl⟩) | (go_at_call 62; with_reducible refine (specInB x.hops 255 _ _ H2.out).mono ?_; rintro e w' ⟨rfl, rfl⟩) | (go_at_call 62; with_reducible refine (specInB x.proto 255 _ _ H3.out).mono ?_; rintro e w' ⟨rfl, rfl⟩) | (go_at_call 63; with_reducible refine (innerSB x.proto _ _ H4.out).mono ?_; rintro e w' ⟨rfl, rfl⟩) | (go_at_call 64; with_reducible refine (specAddrOkB ⟨6, x.src.a, x.src.b, x.src.c, x.src.d⟩ _ _ H7.out).mono ?_; rintro e w1 ⟨rfl, b1⟩; have q1 := K.newB b1; obtain ⟨c0, c1, c2, c3, c4, c5, c6, c7, c8, c9, c10, c11, c12, c13, c14, c15⟩ := K.cells16 q1; have Q1 := Lib.hid q1; have B1 := Lib.hid (bthen (Joins.below_alloc1 w _) b1); clear q1 b1))
  go_ret
  exact ⟨ret_bool H.out.symm, B1.out⟩

set_option maxHeartbeats 2000000 in
theorem specSixOk_8 (x : Sh) (A D : Option Addr) (n c m d : Nat) (es : List (Int × List UInt8)) (w : World) (h0 : (upTo x.cls 255) = true) (h1 : (upTo x.label 1048575) = true) (h2 : (upTo x.hops 255) = true) (h3 : (upTo x.proto 255) = true) (h4 : (inner x.proto) = false) (h5 : (decide (x.src.k = 6)) = true) (h6 : (decide (x.dst.k = 6)) = true) (h7 : (x.src.ok) = true) (h8 : (x.dst.ok) = false) : Calls Try.prog 17 #[.agg #[.int .i64 x.cls, .int .i64 x.label, .int .i64 x.hops, .int .i64 x.proto, .int .i64 x.src.k, .int .i64 x.src.a, .int .i64 x.src.b, .int .i64 x.src.c, .int .i64 x.src.d, .int .i64 x.dst.k, .int .i64 x.dst.a, .int .i64 x.dst.b, .int .i64 x.dst.c, .int .i64 x.dst.d, .slice A n c, .slice D m d]] w fun e w' => e = .returned (.bool (x.ok es m)) ∧ Below w.heap.size w w' := by
  have H := Lib.hid (show x.ok es m = false by simp [Sh.ok, Sh.small, adOk6, extsOk, h8])
  have H0 := Lib.hid h0
  have H1 := Lib.hid h1
  have H2 := Lib.hid h2
  have H3 := Lib.hid h3
  have H4 := Lib.hid h4
  simp only [decide_eq_true_eq] at h5
  simp only [decide_eq_true_eq] at h6
  have H7 := Lib.hid (show (⟨6, x.src.a, x.src.b, x.src.c, x.src.d⟩ : Ad).ok = true by rw [← h5]; exact h7)
  have H8 := Lib.hid (show (⟨6, x.dst.a, x.dst.b, x.dst.c, x.dst.d⟩ : Ad).ok = false by rw [← h6]; exact h8)
  clear h0 h1 h2 h3 h4 h7 h8
  go_enter Try.func17, Try.ntmps17
  go_wp2_with (first | (go_at_call 62; with_reducible refine (specInB x.cls 255 _ _ H0.out).mono ?_; rintro e w' ⟨rfl, rfl⟩) | (go_at_call 62; with_reducible refine (specInB x.label 1048575 _ _ H1.out).mono ?_; rintro e w' ⟨rfl, rfl⟩) | (go_at_call 62; with_reducible refine (specInB x.hops 255 _ _ H2.out).mono ?_; rintro e w' ⟨rfl, rfl⟩) | (go_at_call 62; with_reducible refine (specInB x.proto 255 _ _ H3.out).mono ?_; rintro e w' ⟨rfl, rfl⟩) | (go_at_call 63; with_reducible refine (innerSB x.proto _ _ H4.out).mono ?_; rintro e w' ⟨rfl, rfl⟩) | (go_at_call 64; with_reducible refine (specAddrOkB ⟨6, x.src.a, x.src.b, x.src.c, x.src.d⟩ _ _ H7.out).mono ?_; rintro e w1 ⟨rfl, b1⟩; have q1 := K.newB b1; obtain ⟨c0, c1, c2, c3, c4, c5, c6, c7, c8, c9, c10, c11, c12, c13, c14, c15⟩ := K.cells16 q1; have Q1 := Lib.hid q1; have B1 := Lib.hid (bthen (Joins.below_alloc1 w _) b1); clear q1 b1) | (go_at_call 64; with_reducible refine (specAddrOkB ⟨6, x.dst.a, x.dst.b, x.dst.c, x.dst.d⟩ _ _ H8.out).mono ?_; rintro e w2 ⟨rfl, b2⟩; clear c0 c1 c2 c3 c4 c5 c6 c7 c8 c9 c10 c11 c12 c13 c14 c15; have q2 := K.below b2 Q1.out; obtain ⟨c0, c1, c2, c3, c4, c5, c6, c7, c8, c9, c10, c11, c12, c13, c14, c15⟩ := K.cells16 q2; have Q2 := Lib.hid q2; have B2 := Lib.hid (bthen B1.out b2); clear q2 b2))
  go_ret
  exact ⟨ret_bool H.out.symm, B2.out⟩

set_option maxHeartbeats 2000000 in
theorem specSixOk_9 (x : Sh) (A D : Option Addr) (n c m d : Nat) (es : List (Int × List UInt8)) (w : World) (hl : es.length = n) (h0 : (upTo x.cls 255) = true) (h1 : (upTo x.label 1048575) = true) (h2 : (upTo x.hops 255) = true) (h3 : (upTo x.proto 255) = true) (h4 : (inner x.proto) = false) (h5 : (decide (x.src.k = 6)) = true) (h6 : (decide (x.dst.k = 6)) = true) (h7 : (x.src.ok) = true) (h8 : (x.dst.ok) = true) (h9 : (decide (n ≤ 3)) = false) : Calls Try.prog 17 #[.agg #[.int .i64 x.cls, .int .i64 x.label, .int .i64 x.hops, .int .i64 x.proto, .int .i64 x.src.k, .int .i64 x.src.a, .int .i64 x.src.b, .int .i64 x.src.c, .int .i64 x.src.d, .int .i64 x.dst.k, .int .i64 x.dst.a, .int .i64 x.dst.b, .int .i64 x.dst.c, .int .i64 x.dst.d, .slice A n c, .slice D m d]] w fun e w' => e = .returned (.bool (x.ok es m)) ∧ Below w.heap.size w w' := by
  have H := Lib.hid (show x.ok es m = false by simp [Sh.ok, Sh.small, adOk6, extsOk, h9, hl])
  have H0 := Lib.hid h0
  have H1 := Lib.hid h1
  have H2 := Lib.hid h2
  have H3 := Lib.hid h3
  have H4 := Lib.hid h4
  simp only [decide_eq_true_eq] at h5
  simp only [decide_eq_true_eq] at h6
  have H7 := Lib.hid (show (⟨6, x.src.a, x.src.b, x.src.c, x.src.d⟩ : Ad).ok = true by rw [← h5]; exact h7)
  have H8 := Lib.hid (show (⟨6, x.dst.a, x.dst.b, x.dst.c, x.dst.d⟩ : Ad).ok = true by rw [← h6]; exact h8)
  simp only [decide_eq_false_iff_not] at h9
  clear h0 h1 h2 h3 h4 h7 h8
  have h9b : (3 : Int) < n := by omega
  clear hl h9
  go_enter Try.func17, Try.ntmps17
  go_wp2_with (first | (go_at_call 62; with_reducible refine (specInB x.cls 255 _ _ H0.out).mono ?_; rintro e w' ⟨rfl, rfl⟩) | (go_at_call 62; with_reducible refine (specInB x.label 1048575 _ _ H1.out).mono ?_; rintro e w' ⟨rfl, rfl⟩) | (go_at_call 62; with_reducible refine (specInB x.hops 255 _ _ H2.out).mono ?_; rintro e w' ⟨rfl, rfl⟩) | (go_at_call 62; with_reducible refine (specInB x.proto 255 _ _ H3.out).mono ?_; rintro e w' ⟨rfl, rfl⟩) | (go_at_call 63; with_reducible refine (innerSB x.proto _ _ H4.out).mono ?_; rintro e w' ⟨rfl, rfl⟩) | (go_at_call 64; with_reducible refine (specAddrOkB ⟨6, x.src.a, x.src.b, x.src.c, x.src.d⟩ _ _ H7.out).mono ?_; rintro e w1 ⟨rfl, b1⟩; have q1 := K.newB b1; obtain ⟨c0, c1, c2, c3, c4, c5, c6, c7, c8, c9, c10, c11, c12, c13, c14, c15⟩ := K.cells16 q1; have Q1 := Lib.hid q1; have B1 := Lib.hid (bthen (Joins.below_alloc1 w _) b1); clear q1 b1) | (go_at_call 64; with_reducible refine (specAddrOkB ⟨6, x.dst.a, x.dst.b, x.dst.c, x.dst.d⟩ _ _ H8.out).mono ?_; rintro e w2 ⟨rfl, b2⟩; clear c0 c1 c2 c3 c4 c5 c6 c7 c8 c9 c10 c11 c12 c13 c14 c15; have q2 := K.below b2 Q1.out; obtain ⟨c0, c1, c2, c3, c4, c5, c6, c7, c8, c9, c10, c11, c12, c13, c14, c15⟩ := K.cells16 q2; have Q2 := Lib.hid q2; have B2 := Lib.hid (bthen B1.out b2); clear q2 b2))
  go_ret
  exact ⟨ret_bool H.out.symm, B2.out⟩
end Go.Proofs.Ytkmijefheejcjaa
