/-
  The laws' own helpers on addresses and prefixes; AddrOk in the program and in the model.
-/
import Derived.Test.YtmfkpiclpkeemaaAddrLib
import Derived.Deep.QuietTactic
import Derived.BigQuiet
import Derived.Handy
import Derived.Lib.SmallJoins
namespace Go.Proofs.Ytmfkpiclpkeemaa
set_option maxRecDepth 100000
open Go.RowKit

/-- The cells of a block that was made and not written since. -/
theorem box_cell {w w' : World} {cs : Array Value} {t : TypeId} (b : Below (w.alloc (.cells cs t)).heap.size (w.alloc (.cells cs t)) w') (j : Nat) (v : Value) (h : cs[j]? = some v) : w'.cell? ⟨w.heap.size, j, none⟩ = some v := by
  rw [b.cell (p := ⟨w.heap.size, j, none⟩) (by simp)]
  simp [go_sem, h]

theorem ad_box {w w' : World} {x : Ad} {t : TypeId} (b : Below (w.alloc (.cells #[.int .i64 x.k, .int .i64 x.a, .int .i64 x.b, .int .i64 x.c, .int .i64 x.d] t)).heap.size (w.alloc (.cells #[.int .i64 x.k, .int .i64 x.a, .int .i64 x.b, .int .i64 x.c, .int .i64 x.d] t)) w') :
    w'.cell? ⟨w.heap.size, 0, none⟩ = some (.int .i64 x.k) ∧ w'.cell? ⟨w.heap.size, 1, none⟩ = some (.int .i64 x.a) ∧ w'.cell? ⟨w.heap.size, 2, none⟩ = some (.int .i64 x.b) ∧ w'.cell? ⟨w.heap.size, 3, none⟩ = some (.int .i64 x.c) ∧ w'.cell? ⟨w.heap.size, 4, none⟩ = some (.int .i64 x.d) :=
  ⟨box_cell b 0 _ rfl, box_cell b 1 _ rfl, box_cell b 2 _ rfl, box_cell b 3 _ rfl, box_cell b 4 _ rfl⟩

theorem pf_box {w w' : World} {p : Pf} {t : TypeId} (b : Below (w.alloc (.cells #[.int .i64 p.base.k, .int .i64 p.base.a, .int .i64 p.base.b, .int .i64 p.base.c, .int .i64 p.base.d, .int .i64 p.len] t)).heap.size (w.alloc (.cells #[.int .i64 p.base.k, .int .i64 p.base.a, .int .i64 p.base.b, .int .i64 p.base.c, .int .i64 p.base.d, .int .i64 p.len] t)) w') :
    w'.cell? ⟨w.heap.size, 0, none⟩ = some (.int .i64 p.base.k) ∧ w'.cell? ⟨w.heap.size, 1, none⟩ = some (.int .i64 p.base.a) ∧ w'.cell? ⟨w.heap.size, 2, none⟩ = some (.int .i64 p.base.b) ∧ w'.cell? ⟨w.heap.size, 3, none⟩ = some (.int .i64 p.base.c) ∧ w'.cell? ⟨w.heap.size, 4, none⟩ = some (.int .i64 p.base.d) ∧
      w'.cell? ⟨w.heap.size, 5, none⟩ = some (.int .i64 p.len) :=
  ⟨box_cell b 0 _ rfl, box_cell b 1 _ rfl, box_cell b 2 _ rfl, box_cell b 3 _ rfl, box_cell b 4 _ rfl, box_cell b 5 _ rfl⟩

set_option maxHeartbeats 400000 in
theorem toAddrC (x : Ad) (w : World) :
    Calls Try.prog 100 #[.agg #[.int .i64 x.k, .int .i64 x.a, .int .i64 x.b, .int .i64 x.c, .int .i64 x.d]] w fun e w' => e = .returned (.agg #[.int .i64 x.k, .int .i64 x.a, .int .i64 x.b, .int .i64 x.c, .int .i64 x.d]) ∧ Below w.heap.size w w' := by
  go_enter Try.func100, Try.ntmps100
  go_wp2
  go_returns
  exact ⟨rfl, by go_grown⟩

set_option maxHeartbeats 400000 in
theorem toPrefixC (p : Pf) (w : World) :
    Calls Try.prog 118 #[.agg #[.int .i64 p.base.k, .int .i64 p.base.a, .int .i64 p.base.b, .int .i64 p.base.c, .int .i64 p.base.d, .int .i64 p.len]] w fun e w' => e = .returned (.agg #[.int .i64 p.base.k, .int .i64 p.base.a, .int .i64 p.base.b, .int .i64 p.base.c, .int .i64 p.base.d, .int .i64 p.len]) ∧ Below w.heap.size w w' := by
  go_enter Try.func118, Try.ntmps118
  go_wp2
  go_returns
  exact ⟨rfl, by go_grown⟩

set_option maxHeartbeats 400000 in
theorem eqAddrC (x : Ad) (w : World) :
    Calls Try.prog 131 #[.agg #[.int .i64 x.k, .int .i64 x.a, .int .i64 x.b, .int .i64 x.c, .int .i64 x.d], .agg #[.int .i64 x.k, .int .i64 x.a, .int .i64 x.b, .int .i64 x.c, .int .i64 x.d]] w fun e w' => e = .returned (.bool true) ∧ Below w.heap.size w w' := by
  go_enter Try.func131, Try.ntmps131
  go_wp2
  go_returns
  exact ⟨rfl, by go_grown⟩

set_option maxHeartbeats 400000 in
theorem eqPrefixC (p : Pf) (w : World) :
    Calls Try.prog 123 #[.agg #[.int .i64 p.base.k, .int .i64 p.base.a, .int .i64 p.base.b, .int .i64 p.base.c, .int .i64 p.base.d, .int .i64 p.len], .agg #[.int .i64 p.base.k, .int .i64 p.base.a, .int .i64 p.base.b, .int .i64 p.base.c, .int .i64 p.base.d, .int .i64 p.len]] w fun e w' => e = .returned (.bool true) ∧ Below w.heap.size w w' := by
  go_enter Try.func123, Try.ntmps123
  go_wp2
  go_returns
  exact ⟨rfl, by go_grown⟩

set_option maxHeartbeats 400000 in
theorem specHalf (n : Int) (w : World) : Calls Try.prog 143 #[.int .i64 n] w fun e w' => e = .returned (.bool (half n)) ∧ w = w' := by
  go_enter Try.func143, Try.ntmps143
  go_wp2
  · go_ret
    exact ⟨ret_bool (by simp [half]; omega), rfl⟩
  · go_ret
    exact ⟨ret_bool (by simp [half]; omega), rfl⟩

set_option maxHeartbeats 400000 in
theorem partOkC (n : Int) (w : World) : Calls Try.prog 144 #[.int .i64 n] w fun e w' => e = .returned (.bool (half n)) ∧ w = w' := by
  by_cases h : 0 ≤ n ∧ n ≤ 4294967295
  · have hh := Lib.hid ((half_iff n).2 h)
    obtain ⟨h1, h2⟩ := h
    go_enter Try.func144, Try.ntmps144
    go_wp2_with (go_at_call 63; refine (within_yes _ _ _ _ h1 h2).mono ?_; rintro e w' ⟨rfl, rfl⟩)
    go_ret
    exact ⟨ret_bool hh.out.symm, rfl⟩
  · have hh := Lib.hid (show half n = false by simp [half]; omega)
    have h3 := Lib.hid (show n < 0 ∨ 4294967295 < n by omega)
    clear h
    go_enter Try.func144, Try.ntmps144
    go_wp2_with (go_at_call 63; refine (within_no _ _ _ _ h3.out).mono ?_; rintro e w' ⟨rfl, rfl⟩)
    go_ret
    exact ⟨ret_bool hh.out.symm, rfl⟩

set_option maxHeartbeats 400000 in
theorem bitsOfC (k : Int) (h : k = 4 ∨ k = 6) (w : World) : Calls Try.prog 130 #[.int .i64 k] w fun e w' => e = .returned (.int .i64 (if k = 4 then 32 else 128)) ∧ w = w' := by
  rcases h with rfl | rfl
  · go_enter Try.func130, Try.ntmps130
    go_wp2
    go_ret
    exact ⟨rfl, rfl⟩
  · go_enter Try.func130, Try.ntmps130
    go_wp2
    go_ret
    exact ⟨rfl, rfl⟩

set_option maxHeartbeats 400000 in
theorem specBits (x : Ad) (w : World) : Calls Try.prog 148 #[.agg #[.int .i64 x.k, .int .i64 x.a, .int .i64 x.b, .int .i64 x.c, .int .i64 x.d]] w fun e w' => e = .returned (.int .i64 x.bits) ∧ Below w.heap.size w w' := by
  by_cases h : x.k = 4
  · go_enter Try.func148, Try.ntmps148
    go_wp2
    go_ret
    exact ⟨ret_int (by simp [Ad.bits, h]), by go_grown⟩
  · go_enter Try.func148, Try.ntmps148
    go_wp2
    go_ret
    exact ⟨ret_int (by simp [Ad.bits, h]), by go_grown⟩

set_option maxHeartbeats 1000000 in
theorem specAddrOk (x : Ad) (w : World) : Calls Try.prog 124 #[.agg #[.int .i64 x.k, .int .i64 x.a, .int .i64 x.b, .int .i64 x.c, .int .i64 x.d]] w fun e w' => e = .returned (.bool x.ok) ∧ Below w.heap.size w w' := by
  by_cases h : x.k = 4
  · go_enter Try.func124, Try.ntmps124
    go_wp2_with (go_at_call 143; refine (specHalf _ _).mono ?_; rintro e w' ⟨rfl, rfl⟩)
    all_goals (go_ret; exact ⟨ret_bool (by simp [Ad.ok, *]), by go_grown⟩)
  · go_enter Try.func124, Try.ntmps124
    go_wp2_with (go_at_call 143; refine (specHalf _ _).mono ?_; rintro e w' ⟨rfl, rfl⟩)
    all_goals (go_ret; exact ⟨ret_bool (by simp [Ad.ok, *]), by go_grown⟩)

set_option maxHeartbeats 1000000 in
theorem implAddrOk (x : Ad) (w : World) : Calls Try.prog 125 #[.agg #[.int .i64 x.k, .int .i64 x.a, .int .i64 x.b, .int .i64 x.c, .int .i64 x.d]] w fun e w' => e = .returned (.bool x.ok) ∧ Below w.heap.size w w' := by
  by_cases h : x.k = 4
  · go_enter Try.func125, Try.ntmps125
    go_wp2_with (go_at_call 144; refine (partOkC _ _).mono ?_; rintro e w' ⟨rfl, rfl⟩)
    all_goals (go_ret; exact ⟨ret_bool (by simp [Ad.ok, *]), by go_grown⟩)
  · go_enter Try.func125, Try.ntmps125
    go_wp2_with (go_at_call 144; refine (partOkC _ _).mono ?_; rintro e w' ⟨rfl, rfl⟩)
    all_goals (go_ret; exact ⟨ret_bool (by simp [Ad.ok, *]), by go_grown⟩)
end Go.Proofs.Ytmfkpiclpkeemaa
