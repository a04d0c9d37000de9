/-
  What SixOk calls, in the program and in the model.
-/
import Derived.Test.YtkmijefheejcjaaSix
import Derived.Test.YtkmijefheejcjaaFourOk
import Derived.Test.YtkmijefheejcjaaAddrBytes
namespace Go.Proofs.Ytkmijefheejcjaa
set_option maxRecDepth 100000
open Go.RowKit

theorem extsSize_eq (ys : List Ey) : extsSize (ys.map Ey.says) = 2 * ys.length + bodies ys := by
  induction ys with
  | nil => rfl
  | cons y ys ih =>
    simp only [extsSize, bodies, List.map_cons, List.sum_cons, List.length_cons] at ih ⊢
    simp only [Ey.says] at ih ⊢
    omega
theorem extsSize_le (ys : List Ey) (k : Nat) : extsSize ((ys.map Ey.says).take k) ≤ 2 * k + bodies ys := by
  rw [← List.map_take, extsSize_eq]
  have := bodies_le ys k
  simp
  omega
theorem inner_iff {k : Int} : inner k = true ↔ k = 0 ∨ k = 43 ∨ k = 60 := by simp [inner]

set_option maxHeartbeats 400000 in
theorem innerS (k : Int) (w : World) : Calls Try.prog 63 #[.int .i64 k] w fun e w' => e = .returned (.bool (inner k)) ∧ w = w' := by
  go_enter Try.func63, Try.ntmps63
  go_wp2
  all_goals (go_ret; exact ⟨ret_bool (by rw [Bool.eq_iff_iff]; simp [inner, *]), rfl⟩)

set_option maxHeartbeats 400000 in
theorem innerI (k : Int) (w : World) : Calls Try.prog 106 #[.int .i64 k] w fun e w' => e = .returned (.bool (inner k)) ∧ w = w' := by
  go_enter Try.func106, Try.ntmps106
  go_wp2
  all_goals (go_ret; exact ⟨ret_bool (by rw [Bool.eq_iff_iff]; simp [inner, *]), rfl⟩)
theorem innerSB (k : Int) (b : Bool) (w : World) (h : inner k = b) : Calls Try.prog 63 #[.int .i64 k] w fun e w' => e = .returned (.bool b) ∧ w = w' := h ▸ innerS k w
theorem innerIB (k : Int) (b : Bool) (w : World) (h : inner k = b) : Calls Try.prog 106 #[.int .i64 k] w fun e w' => e = .returned (.bool b) ∧ Below w.heap.size w w' :=
  (h ▸ innerI k w).mono fun _ _ ⟨he, hw⟩ => ⟨he, hw ▸ Below.refl _ _⟩

set_option maxHeartbeats 400000 in
theorem sixAddrOkC (x : Ad) (w : World) : Calls Try.prog 107 #[.agg #[.int .i64 x.k, .int .i64 x.a, .int .i64 x.b, .int .i64 x.c, .int .i64 x.d]] w fun e w' => e = .returned (.bool (adOk6 x)) ∧ Below w.heap.size w w' := by
  by_cases h : x.k = 6
  · have H := Lib.hid (show adOk6 x = x.ok by simp [adOk6, h])
    obtain ⟨k, a, b, c, d⟩ := x
    simp only at h
    subst h
    go_enter Try.func107, Try.ntmps107
    go_wp2_with (go_at_call 109; refine (implAddrOk ⟨6, a, b, c, d⟩ _).mono ?_; rintro e w' ⟨rfl, b1⟩)
    go_ret
    exact ⟨ret_bool H.out.symm, bthen (Joins.below_alloc1 w _) b1⟩
  · have H := Lib.hid (show adOk6 x = false by simp [adOk6, h])
    go_enter Try.func107, Try.ntmps107
    go_wp2
    go_ret
    exact ⟨ret_bool H.out.symm, by go_grown⟩
theorem adOk6B (x : Ad) (b : Bool) (w : World) (h : adOk6 x = b) : Calls Try.prog 107 #[.agg #[.int .i64 x.k, .int .i64 x.a, .int .i64 x.b, .int .i64 x.c, .int .i64 x.d]] w fun e w' => e = .returned (.bool b) ∧ Below w.heap.size w w' := h ▸ sixAddrOkC x w

set_option maxHeartbeats 400000 in
theorem extSizeC (y : Ey) (w : World) (hn : y.bs.length ≤ 1048576) : Calls Try.prog 61 #[.agg #[.int .i64 y.k, .slice y.A y.bs.length y.c]] w fun e w' => e = .returned (.int .i64 (2 + (y.bs.length : Int))) ∧ Below w.heap.size w w' := by
  go_enter Try.func61, Try.ntmps61
  go_wp2
  go_ret
  exact ⟨rfl, by go_grown⟩

set_option maxHeartbeats 1000000 in
theorem extsSizeI (A : Option Addr) (n c : Nat) (ys : List Ey) (w : World) (hx : XR w w.heap.size A ys) (hl : ys.length = n) (hn : n ≤ 1048576) (hb : bodies ys ≤ 1048576) :
    Calls Try.prog 56 #[.slice A n c] w fun e w' => e = .returned (.int .i64 (extsSize (ys.map Ey.says) : Nat)) ∧ Below w.heap.size w w' := by
  have HX := Lib.hid hx
  have HL := Lib.hid hl
  have HB := Lib.hid hb
  clear hx hl hb
  go_enter Try.func56, Try.ntmps56
  go_wp2
  go_loopw [3, 8] (fun s i wr => ∃ k : Nat, k ≤ n ∧ i = .int .i64 k ∧ (∃ z : Nat, s = .int .i64 z ∧ Hid (z = extsSize ((ys.map Ey.says).take k)) ∧ z ≤ 2 * k + 1048576) ∧ Below w.heap.size w wr) (fun s i _ => n - (intOf i).toNat)
  case atStart => exact ⟨0, Nat.zero_le _, rfl, ⟨0, rfl, Lib.hid rfl, by omega⟩, Below.refl _ _⟩
  case round =>
    obtain ⟨k, hk, rfl, ⟨z, rfl, hz, hz2⟩, hb⟩ := hrel
    by_cases hlt : k < n
    · have hk2 : k < ys.length := by rw [HL.out]; exact hlt
      obtain ⟨g, o, rfl, hg, hc0, hc1⟩ := HX.out.at_ hk2
      have c0 := (hb.cell (p := ⟨g, o + k * 2, none⟩) hg).trans hc0
      have c1 := (hb.cell (p := ⟨g, o + k * 2 + 1, none⟩) hg).trans hc1
      have hlen := Nat.le_trans (bodies_at ys k hk2) HB.out
      have hsum : Hid (extsSize ((ys.map Ey.says).take (k + 1)) = extsSize ((ys.map Ey.says).take k) + (2 + ys[k].bs.length)) := Lib.hid (by rw [extsSize_take (by simpa using hk2)]; simp [Ey.says])
      have hbound : Hid (extsSize ((ys.map Ey.says).take (k + 1)) ≤ 2 * (k + 1) + 1048576) := Lib.hid (by have := extsSize_le ys (k + 1); have := HB.out; omega)
      clear hc0 hc1
      generalize ys[k] = y at *
      have HBB := Lib.hid hb
      have Hg := Lib.hid hg
      clear hb hg
      go_wp2_with fail
      refine (extSizeC y _ hlen).mono ?_
      rintro e w2 ⟨rfl, b2⟩
      have B2 := Lib.hid (bthen HBB.out (bthen (by go_grown) b2))
      clear b2
      go_wp2
      go_roundw
      case rel => exact ⟨k + 1, by omega, by go_num, ⟨z + (2 + y.bs.length), by go_num, Lib.hid (by rw [hsum.out, ← hz.out]), by rw [hz.out, ← hsum.out]; exact hbound.out⟩, B2.out⟩
      case measure => simp [intOf]; omega
    · obtain rfl : k = n := by omega
      have H := Lib.hid (show z = extsSize (ys.map Ey.says) by rw [hz.out, List.take_of_length_le (by simp [HL.out])])
      clear hz
      go_wp2
      go_ret
      exact ⟨ret_int (by rw [H.out]), hb⟩
end Go.Proofs.Ytkmijefheejcjaa
