/-
  Cut in the program.
-/
import Derived.Test.YtckakpcjbndijaaAddrOf2
namespace Go.Proofs.Ytckakpcjbndijaa
open Go.RowKit

theorem res_cell {fn : Func} {p : Tmp} {ty : TypeId} (h : fn.results = #[.cell p ty]) (tmps : Array Value) (P : Program) (w : World) (g : Nat) (cs : Array Value)
    (hp : tmps.getD p undef = .pointer (some ⟨g, 0, none⟩)) (hld : (loadVar ty ⟨g, 0, none⟩).run P w = .ok (.agg cs) w) :
    (results fn tmps).run P w = .ok (.agg cs) w := by
  have hp' : tmps[p]?.getD undef = .pointer (some ⟨g, 0, none⟩) := by simpa using hp
  simp [results, h, hp', asAddr, hld]

set_option maxHeartbeats 400000 in
theorem implCut_no (x : Ad) (n : Int) (h : ¬ (x.ok = true ∧ 0 ≤ n ∧ n ≤ x.bits)) (w : World) :
    Calls Try.prog 24 #[.agg #[.int .i64 x.k, .int .i64 x.a, .int .i64 x.b, .int .i64 x.c, .int .i64 x.d], .int .i64 n] w fun e w' => e = .returned (.agg #[.int .i64 Ad.zero.k, .int .i64 Ad.zero.a, .int .i64 Ad.zero.b, .int .i64 Ad.zero.c, .int .i64 Ad.zero.d]) ∧ Below w.heap.size w w' := by
  cases hok : x.ok
  · have HO := Lib.hid hok
    clear h hok
    go_enter Try.func24, Try.ntmps24
    go_wp2_with fail
    refine (implAddrOk x _).mono ?_
    rintro e w1 ⟨rfl, b1⟩
    have hok := HO.out
    have q1 := Lib.hid (row_on b1 (g := w.heap.size + 1) (by simp) (heap_alloc2_new w _ _))
    obtain ⟨⟨d0, d1, d2, d3, d4⟩, f0, f1, f2, f3, f4⟩ := row5 q1.out
    have B1 := bthen (Joins.below_alloc2 w _ _) b1
    go_wp2
    (try simp only [Exit.inBlock, Exit.then])
    refine bodyPost_ret (v := .agg #[.int .i64 Ad.zero.k, .int .i64 Ad.zero.a, .int .i64 Ad.zero.b, .int .i64 Ad.zero.c, .int .i64 Ad.zero.d]) ?_ rfl ⟨rfl, by go_grown⟩
    refine res_cell Try.results24 _ _ _ (w.heap.size + 1) _ ?_ (run_loadVar_row _ _ 25 25 _ (0, 0) _ (set5 _ _ _ _ _ q1.out) Try.underlying25 rfl info_addr)
    rfl
  · have HN := Lib.hid (show n < 0 ∨ x.bits < n by simp only [hok, true_and] at h; omega)
    have HK := Lib.hid (bits_is x hok)
    have HO := Lib.hid hok
    clear h hok
    go_enter Try.func24, Try.ntmps24
    go_wp2_with fail
    refine (implAddrOk x _).mono ?_
    rintro e w1 ⟨rfl, b1⟩
    have hok := HO.out
    have c0 : w1.cell? ⟨w.heap.size, 0, none⟩ = some (.int .i64 x.k) := cell_on b1 (by simp [go_sem])
    have q1 := Lib.hid (row_on b1 (g := w.heap.size + 1) (by simp) (heap_alloc2_new w _ _))
    obtain ⟨⟨d0, d1, d2, d3, d4⟩, f0, f1, f2, f3, f4⟩ := row5 q1.out
    have B1 := bthen (Joins.below_alloc2 w _ _) b1
    go_wp2_with (first | (go_at_call 39; refine (HK.out _).mono ?_; rintro e w' ⟨rfl, rfl⟩) | (go_at_call 43; refine (within_no _ _ _ _ HN.out).mono ?_; rintro e w' ⟨rfl, rfl⟩))
    (try simp only [Exit.inBlock, Exit.then])
    refine bodyPost_ret (v := .agg #[.int .i64 Ad.zero.k, .int .i64 Ad.zero.a, .int .i64 Ad.zero.b, .int .i64 Ad.zero.c, .int .i64 Ad.zero.d]) ?_ rfl ⟨rfl, by go_grown⟩
    refine res_cell Try.results24 _ _ _ (w.heap.size + 1) _ ?_ (run_loadVar_row _ _ 25 25 _ (0, 0) _ (set5 _ _ _ _ _ q1.out) Try.underlying25 rfl info_addr)
    rfl

set_option maxHeartbeats 400000 in
theorem implCut_yes (x : Ad) (n : Int) (h : x.ok = true ∧ 0 ≤ n ∧ n ≤ x.bits) (w : World) :
    Calls Try.prog 24 #[.agg #[.int .i64 x.k, .int .i64 x.a, .int .i64 x.b, .int .i64 x.c, .int .i64 x.d], .int .i64 n] w fun e w' => e = .returned (.agg #[.int .i64 (x.cut n).k, .int .i64 (x.cut n).a, .int .i64 (x.cut n).b, .int .i64 (x.cut n).c, .int .i64 (x.cut n).d]) ∧ Below w.heap.size w w' := by
  have HC := Lib.hid (Ad.cut_of h)
  obtain ⟨hok, h0, h1⟩ := h
  have HF := Lib.hid (firstBitsC x n hok h0 h1)
  have HK := Lib.hid (bits_is x hok)
  have HO := Lib.hid hok
  have hl : (cutB (128 - x.bits + n).toNat x.whole).length = 16 := by rw [cutB_length, x.whole_length]
  obtain ⟨Y, hY⟩ : ∃ Y, Y = cutB (128 - x.bits + n).toNat x.whole := ⟨_, rfl⟩
  rw [← hY] at hl HF HC
  have HL := Lib.hid hl
  clear hok hl hY
  go_enter Try.func24, Try.ntmps24
  go_wp2_with fail
  refine (implAddrOk x _).mono ?_
  rintro e w1 ⟨rfl, b1⟩
  have hok := HO.out
  have c0 : w1.cell? ⟨w.heap.size, 0, none⟩ = some (.int .i64 x.k) := cell_on b1 (by simp [go_sem])
  have c1 : w1.cell? ⟨w.heap.size, 1, none⟩ = some (.int .i64 x.a) := cell_on b1 (by simp [go_sem])
  have c2 : w1.cell? ⟨w.heap.size, 2, none⟩ = some (.int .i64 x.b) := cell_on b1 (by simp [go_sem])
  have c3 : w1.cell? ⟨w.heap.size, 3, none⟩ = some (.int .i64 x.c) := cell_on b1 (by simp [go_sem])
  have c4 : w1.cell? ⟨w.heap.size, 4, none⟩ = some (.int .i64 x.d) := cell_on b1 (by simp [go_sem])
  have q1 := Lib.hid (row_on b1 (g := w.heap.size + 1) (by simp) (heap_alloc2_new w _ _))
  have B1 := bthen (Joins.below_alloc2 w _ _) b1
  clear b1
  go_wp2_with (first | (go_at_call 39; refine (HK.out _).mono ?_; rintro e w' ⟨rfl, rfl⟩) | (go_at_call 43; refine (within_yes _ _ _ _ h0 h1).mono ?_; rintro e w' ⟨rfl, rfl⟩))
  go_region_law (first | (go_simp; go_at_call 44; refine (HF.out _).mono ?_; rintro e w2 ⟨rfl, b2⟩; have e0 := cell_on b2 c0) | (go_simp; go_at_call 41; refine (unpackedC x.k Y HL.out _).mono ?_; rintro e w3 ⟨rfl, b3⟩; have q3 := Lib.hid (row_on b3 (row_lt (row_on b2 (row_lt q1.out) q1.out)) (row_on b2 (row_lt q1.out) q1.out)); obtain ⟨⟨d0, d1, d2, d3, d4⟩, f0, f1, f2, f3, f4⟩ := row5 q3.out))
  all_goals
    have B3 : Below w.heap.size w w3 := bthen (bthen B1 (⟨b2.os, b2.tape, b2.output, b2.size, b2.block⟩ : Below w1.heap.size w1 w2)) b3
    go_wp2
    (try simp only [Exit.inBlock, Exit.then])
    refine bodyPost_ret (v := .agg #[.int .i64 (unw x.k Y).k, .int .i64 (unw x.k Y).a, .int .i64 (unw x.k Y).b, .int .i64 (unw x.k Y).c, .int .i64 (unw x.k Y).d]) ?_ rfl ⟨by rw [HC.out], by go_grown⟩
    refine res_cell Try.results24 _ _ _ (w.heap.size + 1) _ ?_ (run_loadVar_row _ _ 25 25 _ (0, 0) _ (set5 _ _ _ _ _ q3.out) Try.underlying25 rfl info_addr)
    rfl

theorem implCut (x : Ad) (n : Int) (w : World) : Calls Try.prog 24 #[.agg #[.int .i64 x.k, .int .i64 x.a, .int .i64 x.b, .int .i64 x.c, .int .i64 x.d], .int .i64 n] w fun e w' => e = .returned (.agg #[.int .i64 (x.cut n).k, .int .i64 (x.cut n).a, .int .i64 (x.cut n).b, .int .i64 (x.cut n).c, .int .i64 (x.cut n).d]) ∧ Below w.heap.size w w' := by
  by_cases h : x.ok = true ∧ 0 ≤ n ∧ n ≤ x.bits
  · exact implCut_yes x n h w
  · rw [Ad.cut_not h]
    exact implCut_no x n h w
end Go.Proofs.Ytckakpcjbndijaa
