/-
  The extension headers, looked through by the program.
-/
import Derived.Test.YtkmijefheejcjaaSixOk
namespace Go.Proofs.Ytkmijefheejcjaa
set_option maxRecDepth 100000
open Go.RowKit

theorem extsOk_no {es : List (Int × List UInt8)} {k : Nat} (hk : k < es.length) (h : extOk k es[k] = false) : extsOk es = false := by
  cases hh : extsFrom 0 es with
  | false => simp [extsOk, hh]
  | true =>
    have := extsFrom_prefix (k + 1) 0 hh
    rw [extsFrom_take hk, h] at this
    simp at this
theorem extOk_inner {k : Nat} {e : Int × List UInt8} (h : inner e.1 = false) : extOk k e = false := by simp [extOk, h]
theorem extOk_first {k : Nat} {e : Int × List UInt8} (h : e.1 = 0) (hk : 0 < k) : extOk k e = false := by simp [extOk, h, hk]
theorem extOk_long {k : Nat} {e : Int × List UInt8} (h : 62 < e.2.length) : extOk k e = false := by
  simp only [extOk, show ¬ (e.2.length ≤ 62) by omega, decide_false, Bool.and_false, Bool.false_and]
theorem extOk_unit {k : Nat} {e : Int × List UInt8} (h : e.2.length % 8 ≠ 6) : extOk k e = false := by
  simp only [extOk, h, decide_false, Bool.and_false]
theorem extOk_yes {k : Nat} {e : Int × List UInt8} (h1 : inner e.1 = true) (h2 : e.1 ≠ 0 ∨ k = 0) (h3 : e.2.length ≤ 62) (h4 : e.2.length % 8 = 6) : extOk k e = true := by
  rcases h2 with h2 | h2
  · simp [extOk, h1, h2, h3, h4]
  · subst h2
    simp [extOk, h1, h3, h4]

theorem innerIW (k : Int) (b : Bool) (w : World) (h : inner k = b) : Calls Try.prog 106 #[.int .i64 k] w fun e w' => e = .returned (.bool b) ∧ w = w' := h ▸ innerI k w

set_option maxHeartbeats 2000000 in
theorem extsOkI (A : Option Addr) (n c : Nat) (ys : List Ey) (w : World) (hx : XR w w.heap.size A ys) (hl : ys.length = n) (hn : n ≤ 1048576) (hb : bodies ys ≤ 1048576) :
    Calls Try.prog 108 #[.slice A n c] w fun e w' => e = .returned (.bool (extsOk (ys.map Ey.says))) ∧ Below w.heap.size w w' := by
  have HX := Lib.hid hx
  have HL := Lib.hid hl
  have HB := Lib.hid hb
  clear hx hl hb
  by_cases h3 : n ≤ 3
  · go_enter Try.func108, Try.ntmps108
    go_wp2
    go_loopw [10] (fun i wr => ∃ k : Nat, k ≤ n ∧ i = .int .i64 k ∧ Hid (extsFrom 0 ((ys.map Ey.says).take k) = true) ∧ Below w.heap.size w wr) (fun i _ => n - (intOf i).toNat)
    case atStart => exact ⟨0, Nat.zero_le _, rfl, Lib.hid rfl, Below.refl _ _⟩
    case round =>
      obtain ⟨k, hk, rfl, hz, hb⟩ := hrel
      by_cases hlt : k < n
      · have hk2 : k < ys.length := by rw [HL.out]; exact hlt
        obtain ⟨g, o, rfl, hg, hc0, hc1⟩ := HX.out.at_ hk2
        have c0 := (hb.cell (p := ⟨g, o + k * 2, none⟩) hg).trans hc0
        have c1 := (hb.cell (p := ⟨g, o + k * 2 + 1, none⟩) hg).trans hc1
        have hlen := Nat.le_trans (bodies_at ys k hk2) HB.out
        have hno : Hid (extOk k ys[k].says = false → extsOk (ys.map Ey.says) = false) := Lib.hid fun h => extsOk_no (k := k) (by simpa using hk2) (by simpa using h)
        have hyes : Hid (extOk k ys[k].says = true → extsFrom 0 ((ys.map Ey.says).take (k + 1)) = true) := Lib.hid fun h => by
          rw [extsFrom_take (by simpa using hk2), hz.out]
          simpa using h
        clear hc0 hc1
        generalize ys[k] = y at *
        have HBB := Lib.hid hb
        have Hg := Lib.hid hg
        clear hb hg
        cases hi : inner y.k with
        | false =>
          have hi := Lib.hid hi
          go_wp2_with (go_at_call 106; refine (innerIW y.k false _ hi.out).mono ?_; rintro e w2 ⟨rfl, rfl⟩)
          go_ret
          exact ⟨ret_bool (hno.out (extOk_inner hi.out)).symm, bthen HBB.out (by go_grown)⟩
        | true =>
          have hi := Lib.hid hi
          go_wp2_with (first | (go_at_call 106; refine (innerIW y.k true _ hi.out).mono ?_; rintro e w2 ⟨rfl, rfl⟩) | (go_at_call 61; refine (extSizeC y _ hlen).mono ?_; rintro e w3 ⟨rfl, b3⟩) | (go_at_call 61; refine (extSizeC ⟨0, y.bs, y.A, y.c⟩ _ hlen).mono ?_; rintro e w3 ⟨rfl, b3⟩))
          all_goals first
            | (go_ret; refine ⟨ret_bool (hno.out ?_).symm, bthen HBB.out (by go_grown)⟩; first | exact extOk_first (by assumption) (by omega) | exact extOk_long (by simp only [Ey.says]; omega))
            | (rename_i h9; rcases h9 with h9 | h9
               · exfalso; omega
               · have h8 : (2 + (y.bs.length : Int)) % 8 ≠ 0 := by simpa using h9
                 clear h9
                 go_ret
                 refine ⟨ret_bool (hno.out ?_).symm, bthen HBB.out (bthen (by go_grown) b3)⟩
                 exact extOk_unit (by simp only [Ey.says]; omega))
            | (rename_i h9
               have h8 : (2 + (y.bs.length : Int)) % 8 = 0 := by simpa using h9.2
               clear h9
               go_roundw
               case rel => exact ⟨k + 1, by omega, by go_num, Lib.hid (hyes.out (extOk_yes hi.out (by simp only [Ey.says]; omega) (by simp only [Ey.says]; omega) (by simp only [Ey.says]; omega))), bthen HBB.out (bthen (by go_grown) b3)⟩
               case measure => simp [intOf]; omega)
            | trace_state
      · obtain rfl : k = n := by omega
        have H := Lib.hid (show true = extsOk (ys.map Ey.says) by have := hz.out; rw [List.take_of_length_le (by simp [HL.out])] at this; simp [extsOk, this, HL.out, h3])
        clear hz
        go_wp2
        go_ret
        exact ⟨ret_bool H.out, hb⟩
  · have H := Lib.hid (show false = extsOk (ys.map Ey.says) by simp [extsOk, HL.out, h3])
    go_enter Try.func108, Try.ntmps108
    go_wp2
    go_ret
    exact ⟨ret_bool H.out, Below.refl _ _⟩
end Go.Proofs.Ytkmijefheejcjaa
