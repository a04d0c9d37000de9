/-
  EtherOk in the model and in the program.
-/
import Derived.Test.YtaemonjiejgciaaEth
import Derived.Lib.QuietBelow
import Derived.Deep.QuietTactic
import Derived.BigQuiet
namespace Go.Proofs.Ytaemonjiejgciaa
open Go.RowKit

set_option maxHeartbeats 1000000 in
theorem specEtherOk (x : Eh) (A : Option Addr) (n c : Nat) (w : World) (hn : n ≤ 1048576) : Calls Try.prog 9 #[.agg #[.int .i64 x.d, .int .i64 x.s, .int .i64 x.t, .int .i64 x.k, .slice A n c]] w fun e w' => e = .returned (.bool (x.ok n)) ∧ Below w.heap.size w w' := by
  have HH := Lib.hid (show (x.t = -1 ∧ x.head = 14) ∨ (x.t ≠ -1 ∧ x.head = 18) by unfold Eh.head; split <;> simp_all)
  go_enter Try.func9, Try.ntmps9
  go_wp2
  all_goals (go_ret; refine ⟨ret_bool ?_, by go_grown⟩; rw [Bool.eq_iff_iff, Eh.ok_iff]; have := HH.out; simp; omega)

def inTag (n : Int) : Bool := decide (0 ≤ n ∧ n ≤ 65535)
theorem tag_no {n : Int} (h : (n == -1) = false) (h1 : inTag n = false) : tagOk n = false := by simp [inTag, tagOk] at *; omega
theorem tag_none {n : Int} (h : (n == -1) = true) : tagOk n = true := by simp [tagOk] at *; omega
theorem tag_yes {n : Int} (h : inTag n = true) : tagOk n = true := by simp [inTag, tagOk] at *; omega

theorem withinB (n lo hi : Int) (b : Bool) (w : World) (h : decide (lo ≤ n ∧ n ≤ hi) = b) : Calls Try.prog 30 #[.int .i64 n, .int .i64 lo, .int .i64 hi] w fun e w' => e = .returned (.bool b) ∧ w = w' := by
  cases b
  · exact within_no n lo hi w (by simp at h; omega)
  · simp at h
    exact within_yes n lo hi w h.1 h.2
theorem tagB (n : Int) (b : Bool) (w : World) (h : inTag n = b) : Calls Try.prog 30 #[.int .i64 n, .int .i64 0, .int .i64 65535] w fun e w' => e = .returned (.bool b) ∧ Below w.heap.size w w' :=
  (withinB n 0 65535 b w h).mono fun _ _ ⟨he, hw⟩ => ⟨he, hw ▸ Below.refl _ _⟩

set_option maxHeartbeats 400000 in
theorem macOkC (n : Int) (w : World) : Calls Try.prog 29 #[.int .i64 n] w fun e w' => e = .returned (.bool (macOk n)) ∧ w = w' := by
  have H := Lib.hid (fun v => withinB n 0 281474976710655 (macOk n) v rfl)
  go_enter Try.func29, Try.ntmps29
  go_wp2_with (go_at_call 30; refine (H.out _).mono ?_; rintro e w' ⟨rfl, rfl⟩)
  go_ret
  exact ⟨rfl, rfl⟩
theorem macOkB (n : Int) (b : Bool) (w : World) (h : macOk n = b) : Calls Try.prog 29 #[.int .i64 n] w fun e w' => e = .returned (.bool b) ∧ Below w.heap.size w w' :=
  (macOkC n w).mono fun _ _ ⟨he, hw⟩ => ⟨h ▸ he, hw ▸ Below.refl _ _⟩

set_option maxHeartbeats 400000 in
theorem kindOkC (n : Int) (w : World) : Calls Try.prog 31 #[.int .i64 n] w fun e w' => e = .returned (.bool (kindOk n)) ∧ w = w' := by
  cases hb : decide (1536 ≤ n ∧ n ≤ 65535)
  · have H := Lib.hid (fun v => withinB n 1536 65535 false v hb)
    have HK := Lib.hid (show kindOk n = false by simp [kindOk] at *; omega)
    clear hb
    go_enter Try.func31, Try.ntmps31
    go_wp2_with (go_at_call 30; refine (H.out _).mono ?_; rintro e w' ⟨rfl, rfl⟩)
    go_ret
    exact ⟨ret_bool HK.out.symm, rfl⟩
  · have H := Lib.hid (fun v => withinB n 1536 65535 true v hb)
    have HK := Lib.hid (show kindOk n = (n != 33024) by rw [Bool.eq_iff_iff]; simp [kindOk] at *; omega)
    clear hb
    go_enter Try.func31, Try.ntmps31
    go_wp2_with (go_at_call 30; refine (H.out _).mono ?_; rintro e w' ⟨rfl, rfl⟩)
    all_goals (go_ret; exact ⟨ret_bool (by rw [HK.out]), rfl⟩)
theorem kindB (n : Int) (b : Bool) (w : World) (h : kindOk n = b) : Calls Try.prog 31 #[.int .i64 n] w fun e w' => e = .returned (.bool b) ∧ Below w.heap.size w w' :=
  (kindOkC n w).mono fun _ _ ⟨he, hw⟩ => ⟨h ▸ he, hw ▸ Below.refl _ _⟩

set_option maxHeartbeats 400000 in
theorem headC (x : Eh) (A : Option Addr) (n c : Nat) (w : World) : Calls Try.prog 32 #[.agg #[.int .i64 x.d, .int .i64 x.s, .int .i64 x.t, .int .i64 x.k, .slice A n c]] w fun e w' => e = .returned (.int .i64 x.head) ∧ Below w.heap.size w w' := by
  by_cases h : x.t = -1
  · have H := Lib.hid (show x.head = 14 by simp [Eh.head, h])
    go_enter Try.func32, Try.ntmps32
    go_wp2
    go_ret
    exact ⟨ret_int H.out.symm, by go_grown⟩
  · have H := Lib.hid (show x.head = 18 by simp [Eh.head, h])
    have hb : (x.t == -1) = false := by simpa using h
    go_enter Try.func32, Try.ntmps32
    go_wp2
    go_ret
    exact ⟨ret_int H.out.symm, by go_grown⟩

set_option maxRecDepth 100000 in
set_option maxHeartbeats 1000000 in
theorem implOk_d (x : Eh) (A : Option Addr) (n c : Nat) (w : World) (hd : macOk x.d = false) : Calls Try.prog 11 #[.agg #[.int .i64 x.d, .int .i64 x.s, .int .i64 x.t, .int .i64 x.k, .slice A n c]] w fun e w' => e = .returned (.bool (x.ok n)) ∧ Below w.heap.size w w' := by
  have CD := Lib.hid (fun v : World => macOkB x.d _ v hd)
  have H := Lib.hid hd
  clear hd
  go_enter Try.func11, Try.ntmps11
  go_wp2_with fail
  obtain ⟨⟨c0, c1, c2, c3, c4⟩, -⟩ := K.row5 (K.new w (.cells #[.int .i64 x.d, .int .i64 x.s, .int .i64 x.t, .int .i64 x.k, .slice A n c] 27))
  have k0 := cell_regrown c0
  have k1 := cell_regrown c1
  have k2 := cell_regrown c2
  have k3 := cell_regrown c3
  have k4 := cell_regrown c4
  clear c0 c1 c2 c3 c4
  refine wp_region_quiet_below (by kernel_rfl) (by kernel_rfl) ?_
  repeat (go_big_quiet_step ((go_at_call 29; exact Calls.regrown_of (CD.out _))))
  refine wpQuiet_nil ?_
  intro w3 hw3
  obtain ⟨⟨dq, osq⟩, hw3⟩ := hw3
  have B := below_regrown (w.alloc (.cells #[.int .i64 x.d, .int .i64 x.s, .int .i64 x.t, .int .i64 x.k, .slice A n c] 27)) dq osq
  rw [← hw3] at B
  clear hw3 k0 k1 k2 k3 k4
  go_wp2
  go_ret
  refine ⟨ret_bool ?_, bthen (Joins.below_alloc1 w _) B⟩
  simp [Eh.ok, H.out]

set_option maxRecDepth 100000 in
set_option maxHeartbeats 1000000 in
theorem implOk_s (x : Eh) (A : Option Addr) (n c : Nat) (w : World) (hd : macOk x.d = true) (hs : macOk x.s = false) : Calls Try.prog 11 #[.agg #[.int .i64 x.d, .int .i64 x.s, .int .i64 x.t, .int .i64 x.k, .slice A n c]] w fun e w' => e = .returned (.bool (x.ok n)) ∧ Below w.heap.size w w' := by
  have CD := Lib.hid (fun v : World => macOkB x.d _ v hd)
  have CS := Lib.hid (fun v : World => macOkB x.s _ v hs)
  have H := Lib.hid hs
  clear hd hs
  go_enter Try.func11, Try.ntmps11
  go_wp2_with fail
  obtain ⟨⟨c0, c1, c2, c3, c4⟩, -⟩ := K.row5 (K.new w (.cells #[.int .i64 x.d, .int .i64 x.s, .int .i64 x.t, .int .i64 x.k, .slice A n c] 27))
  have k0 := cell_regrown c0
  have k1 := cell_regrown c1
  have k2 := cell_regrown c2
  have k3 := cell_regrown c3
  have k4 := cell_regrown c4
  clear c0 c1 c2 c3 c4
  refine wp_region_quiet_below (by kernel_rfl) (by kernel_rfl) ?_
  repeat (go_big_quiet_step (first | (go_at_call 29; exact Calls.regrown_of (CD.out _)) | (go_at_call 29; exact Calls.regrown_of (CS.out _))))
  refine wpQuiet_nil ?_
  intro w3 hw3
  obtain ⟨⟨dq, osq⟩, hw3⟩ := hw3
  have B := below_regrown (w.alloc (.cells #[.int .i64 x.d, .int .i64 x.s, .int .i64 x.t, .int .i64 x.k, .slice A n c] 27)) dq osq
  rw [← hw3] at B
  clear hw3 k0 k1 k2 k3 k4
  go_wp2
  go_ret
  refine ⟨ret_bool ?_, bthen (Joins.below_alloc1 w _) B⟩
  simp [Eh.ok, H.out]

set_option maxRecDepth 100000 in
set_option maxHeartbeats 1000000 in
theorem implOk_t (x : Eh) (A : Option Addr) (n c : Nat) (w : World) (hd : macOk x.d = true) (hs : macOk x.s = true) (ht : (x.t == -1) = false) (ht1 : inTag x.t = false) : Calls Try.prog 11 #[.agg #[.int .i64 x.d, .int .i64 x.s, .int .i64 x.t, .int .i64 x.k, .slice A n c]] w fun e w' => e = .returned (.bool (x.ok n)) ∧ Below w.heap.size w w' := by
  have CD := Lib.hid (fun v : World => macOkB x.d _ v hd)
  have CS := Lib.hid (fun v : World => macOkB x.s _ v hs)
  have CT := Lib.hid (fun v : World => tagB x.t _ v ht1)
  have H := Lib.hid (tag_no ht ht1)
  clear hd hs ht1
  go_enter Try.func11, Try.ntmps11
  go_wp2_with fail
  obtain ⟨⟨c0, c1, c2, c3, c4⟩, -⟩ := K.row5 (K.new w (.cells #[.int .i64 x.d, .int .i64 x.s, .int .i64 x.t, .int .i64 x.k, .slice A n c] 27))
  have k0 := cell_regrown c0
  have k1 := cell_regrown c1
  have k2 := cell_regrown c2
  have k3 := cell_regrown c3
  have k4 := cell_regrown c4
  clear c0 c1 c2 c3 c4
  refine wp_region_quiet_below (by kernel_rfl) (by kernel_rfl) ?_
  repeat (go_big_quiet_step (first | (go_at_call 29; exact Calls.regrown_of (CD.out _)) | (go_at_call 29; exact Calls.regrown_of (CS.out _)) | (go_at_call 30; exact Calls.regrown_of (CT.out _))))
  refine wpQuiet_nil ?_
  intro w3 hw3
  obtain ⟨⟨dq, osq⟩, hw3⟩ := hw3
  have B := below_regrown (w.alloc (.cells #[.int .i64 x.d, .int .i64 x.s, .int .i64 x.t, .int .i64 x.k, .slice A n c] 27)) dq osq
  rw [← hw3] at B
  clear hw3 k0 k1 k2 k3 k4
  go_wp2
  go_ret
  refine ⟨ret_bool ?_, bthen (Joins.below_alloc1 w _) B⟩
  simp [Eh.ok, H.out]

set_option maxRecDepth 100000 in
set_option maxHeartbeats 1000000 in
theorem implOk_ku (x : Eh) (A : Option Addr) (n c : Nat) (w : World) (hd : macOk x.d = true) (hs : macOk x.s = true) (ht : (x.t == -1) = true) (hk : kindOk x.k = false) : Calls Try.prog 11 #[.agg #[.int .i64 x.d, .int .i64 x.s, .int .i64 x.t, .int .i64 x.k, .slice A n c]] w fun e w' => e = .returned (.bool (x.ok n)) ∧ Below w.heap.size w w' := by
  have CD := Lib.hid (fun v : World => macOkB x.d _ v hd)
  have CS := Lib.hid (fun v : World => macOkB x.s _ v hs)
  have CK := Lib.hid (fun v : World => kindB x.k _ v hk)
  have H := Lib.hid hk
  clear hd hs hk
  go_enter Try.func11, Try.ntmps11
  go_wp2_with fail
  obtain ⟨⟨c0, c1, c2, c3, c4⟩, -⟩ := K.row5 (K.new w (.cells #[.int .i64 x.d, .int .i64 x.s, .int .i64 x.t, .int .i64 x.k, .slice A n c] 27))
  have k0 := cell_regrown c0
  have k1 := cell_regrown c1
  have k2 := cell_regrown c2
  have k3 := cell_regrown c3
  have k4 := cell_regrown c4
  clear c0 c1 c2 c3 c4
  refine wp_region_quiet_below (by kernel_rfl) (by kernel_rfl) ?_
  repeat (go_big_quiet_step (first | (go_at_call 29; exact Calls.regrown_of (CD.out _)) | (go_at_call 29; exact Calls.regrown_of (CS.out _)) | (go_at_call 31; exact Calls.regrown_of (CK.out _))))
  refine wpQuiet_nil ?_
  intro w3 hw3
  obtain ⟨⟨dq, osq⟩, hw3⟩ := hw3
  have B := below_regrown (w.alloc (.cells #[.int .i64 x.d, .int .i64 x.s, .int .i64 x.t, .int .i64 x.k, .slice A n c] 27)) dq osq
  rw [← hw3] at B
  clear hw3 k0 k1 k2 k3 k4
  go_wp2
  go_ret
  refine ⟨ret_bool ?_, bthen (Joins.below_alloc1 w _) B⟩
  simp [Eh.ok, H.out]

set_option maxRecDepth 100000 in
set_option maxHeartbeats 1000000 in
theorem implOk_nu (x : Eh) (A : Option Addr) (n c : Nat) (w : World) (hd : macOk x.d = true) (hs : macOk x.s = true) (ht : (x.t == -1) = true) (hk : kindOk x.k = true) : Calls Try.prog 11 #[.agg #[.int .i64 x.d, .int .i64 x.s, .int .i64 x.t, .int .i64 x.k, .slice A n c]] w fun e w' => e = .returned (.bool (x.ok n)) ∧ Below w.heap.size w w' := by
  have CD := Lib.hid (fun v : World => macOkB x.d _ v hd)
  have CS := Lib.hid (fun v : World => macOkB x.s _ v hs)
  have CK := Lib.hid (fun v : World => kindB x.k _ v hk)
  have CH := Lib.hid (fun v : World => headC x A n c v)
  have H := Lib.hid (And.intro hd (And.intro hs (And.intro hk (tag_none ht))))
  obtain ⟨y, hy⟩ : ∃ y, x.head = y := ⟨_, rfl⟩
  have hy2 : 14 ≤ y ∧ y ≤ 18 := by rw [← hy]; unfold Eh.head; split <;> omega
  rw [hy] at CH
  have HY := Lib.hid hy
  clear hd hs hk
  clear hy
  go_enter Try.func11, Try.ntmps11
  go_wp2_with fail
  obtain ⟨⟨c0, c1, c2, c3, c4⟩, -⟩ := K.row5 (K.new w (.cells #[.int .i64 x.d, .int .i64 x.s, .int .i64 x.t, .int .i64 x.k, .slice A n c] 27))
  have k0 := cell_regrown c0
  have k1 := cell_regrown c1
  have k2 := cell_regrown c2
  have k3 := cell_regrown c3
  have k4 := cell_regrown c4
  clear c0 c1 c2 c3 c4
  refine wp_region_quiet_below (by kernel_rfl) (by kernel_rfl) ?_
  repeat (go_big_quiet_step (first | (go_at_call 29; exact Calls.regrown_of (CD.out _)) | (go_at_call 29; exact Calls.regrown_of (CS.out _)) | (go_at_call 31; exact Calls.regrown_of (CK.out _)) | (go_at_call 32; exact Calls.regrown_of (CH.out _))))
  refine wpQuiet_nil ?_
  intro w3 hw3
  obtain ⟨⟨dq, osq⟩, hw3⟩ := hw3
  have B := below_regrown (w.alloc (.cells #[.int .i64 x.d, .int .i64 x.s, .int .i64 x.t, .int .i64 x.k, .slice A n c] 27)) dq osq
  rw [← hw3] at B
  clear hw3 k0 k1 k2 k3 k4
  go_wp2
  go_ret
  refine ⟨ret_bool ?_, bthen (Joins.below_alloc1 w _) B⟩
  simp [Eh.ok, H.out, HY.out]

set_option maxRecDepth 100000 in
set_option maxHeartbeats 1000000 in
theorem implOk_kv (x : Eh) (A : Option Addr) (n c : Nat) (w : World) (hd : macOk x.d = true) (hs : macOk x.s = true) (ht : (x.t == -1) = false) (ht1 : inTag x.t = true) (hk : kindOk x.k = false) : Calls Try.prog 11 #[.agg #[.int .i64 x.d, .int .i64 x.s, .int .i64 x.t, .int .i64 x.k, .slice A n c]] w fun e w' => e = .returned (.bool (x.ok n)) ∧ Below w.heap.size w w' := by
  have CD := Lib.hid (fun v : World => macOkB x.d _ v hd)
  have CS := Lib.hid (fun v : World => macOkB x.s _ v hs)
  have CT := Lib.hid (fun v : World => tagB x.t _ v ht1)
  have CK := Lib.hid (fun v : World => kindB x.k _ v hk)
  have H := Lib.hid hk
  clear hd hs hk ht1
  go_enter Try.func11, Try.ntmps11
  go_wp2_with fail
  obtain ⟨⟨c0, c1, c2, c3, c4⟩, -⟩ := K.row5 (K.new w (.cells #[.int .i64 x.d, .int .i64 x.s, .int .i64 x.t, .int .i64 x.k, .slice A n c] 27))
  have k0 := cell_regrown c0
  have k1 := cell_regrown c1
  have k2 := cell_regrown c2
  have k3 := cell_regrown c3
  have k4 := cell_regrown c4
  clear c0 c1 c2 c3 c4
  refine wp_region_quiet_below (by kernel_rfl) (by kernel_rfl) ?_
  repeat (go_big_quiet_step (first | (go_at_call 29; exact Calls.regrown_of (CD.out _)) | (go_at_call 29; exact Calls.regrown_of (CS.out _)) | (go_at_call 30; exact Calls.regrown_of (CT.out _)) | (go_at_call 31; exact Calls.regrown_of (CK.out _))))
  refine wpQuiet_nil ?_
  intro w3 hw3
  obtain ⟨⟨dq, osq⟩, hw3⟩ := hw3
  have B := below_regrown (w.alloc (.cells #[.int .i64 x.d, .int .i64 x.s, .int .i64 x.t, .int .i64 x.k, .slice A n c] 27)) dq osq
  rw [← hw3] at B
  clear hw3 k0 k1 k2 k3 k4
  go_wp2
  go_ret
  refine ⟨ret_bool ?_, bthen (Joins.below_alloc1 w _) B⟩
  simp [Eh.ok, H.out]

set_option maxRecDepth 100000 in
set_option maxHeartbeats 1000000 in
theorem implOk_nv (x : Eh) (A : Option Addr) (n c : Nat) (w : World) (hd : macOk x.d = true) (hs : macOk x.s = true) (ht : (x.t == -1) = false) (ht1 : inTag x.t = true) (hk : kindOk x.k = true) : Calls Try.prog 11 #[.agg #[.int .i64 x.d, .int .i64 x.s, .int .i64 x.t, .int .i64 x.k, .slice A n c]] w fun e w' => e = .returned (.bool (x.ok n)) ∧ Below w.heap.size w w' := by
  have CD := Lib.hid (fun v : World => macOkB x.d _ v hd)
  have CS := Lib.hid (fun v : World => macOkB x.s _ v hs)
  have CT := Lib.hid (fun v : World => tagB x.t _ v ht1)
  have CK := Lib.hid (fun v : World => kindB x.k _ v hk)
  have CH := Lib.hid (fun v : World => headC x A n c v)
  have H := Lib.hid (And.intro hd (And.intro hs (And.intro hk (tag_yes ht1))))
  obtain ⟨y, hy⟩ : ∃ y, x.head = y := ⟨_, rfl⟩
  have hy2 : 14 ≤ y ∧ y ≤ 18 := by rw [← hy]; unfold Eh.head; split <;> omega
  rw [hy] at CH
  have HY := Lib.hid hy
  clear hd hs hk ht1
  clear hy
  go_enter Try.func11, Try.ntmps11
  go_wp2_with fail
  obtain ⟨⟨c0, c1, c2, c3, c4⟩, -⟩ := K.row5 (K.new w (.cells #[.int .i64 x.d, .int .i64 x.s, .int .i64 x.t, .int .i64 x.k, .slice A n c] 27))
  have k0 := cell_regrown c0
  have k1 := cell_regrown c1
  have k2 := cell_regrown c2
  have k3 := cell_regrown c3
  have k4 := cell_regrown c4
  clear c0 c1 c2 c3 c4
  refine wp_region_quiet_below (by kernel_rfl) (by kernel_rfl) ?_
  repeat (go_big_quiet_step (first | (go_at_call 29; exact Calls.regrown_of (CD.out _)) | (go_at_call 29; exact Calls.regrown_of (CS.out _)) | (go_at_call 30; exact Calls.regrown_of (CT.out _)) | (go_at_call 31; exact Calls.regrown_of (CK.out _)) | (go_at_call 32; exact Calls.regrown_of (CH.out _))))
  refine wpQuiet_nil ?_
  intro w3 hw3
  obtain ⟨⟨dq, osq⟩, hw3⟩ := hw3
  have B := below_regrown (w.alloc (.cells #[.int .i64 x.d, .int .i64 x.s, .int .i64 x.t, .int .i64 x.k, .slice A n c] 27)) dq osq
  rw [← hw3] at B
  clear hw3 k0 k1 k2 k3 k4
  go_wp2
  go_ret
  refine ⟨ret_bool ?_, bthen (Joins.below_alloc1 w _) B⟩
  simp [Eh.ok, H.out, HY.out]

theorem implEtherOk (x : Eh) (A : Option Addr) (n c : Nat) (w : World) : Calls Try.prog 11 #[.agg #[.int .i64 x.d, .int .i64 x.s, .int .i64 x.t, .int .i64 x.k, .slice A n c]] w fun e w' => e = .returned (.bool (x.ok n)) ∧ Below w.heap.size w w' := by
  cases hd : macOk x.d
  · exact implOk_d x A n c w hd
  · cases hs : macOk x.s
    · exact implOk_s x A n c w hd hs
    · cases ht : x.t == -1
      · cases ht1 : inTag x.t
        · exact implOk_t x A n c w hd hs ht ht1
        · cases hk : kindOk x.k
          · exact implOk_kv x A n c w hd hs ht ht1 hk
          · exact implOk_nv x A n c w hd hs ht ht1 hk
      · cases hk : kindOk x.k
        · exact implOk_ku x A n c w hd hs ht hk
        · exact implOk_nu x A n c w hd hs ht hk
end Go.Proofs.Ytaemonjiejgciaa
