/-
  Cut in the model.
-/
import Derived.Test.YtdndanbalmoklaaCut
namespace Go.Proofs.Ytdndanbalmoklaa
set_option maxRecDepth 100000
open Go.RowKit

set_option maxHeartbeats 400000 in
theorem specCut_no (x : Ad) (n : Int) (h : ¬ (x.ok = true ∧ 0 ≤ n ∧ n ≤ x.bits)) (w : World) :
    Calls Try.prog 82 #[.agg #[.int .i64 x.k, .int .i64 x.a, .int .i64 x.b, .int .i64 x.c, .int .i64 x.d], .int .i64 n] w fun e w' => e = .returned (.agg #[.int .i64 Ad.zero.k, .int .i64 Ad.zero.a, .int .i64 Ad.zero.b, .int .i64 Ad.zero.c, .int .i64 Ad.zero.d]) ∧ Below w.heap.size w w' := by
  cases hok : x.ok
  · have HO := Lib.hid hok
    clear h hok
    go_enter Try.func82, Try.ntmps82
    go_wp2_with fail
    refine (specAddrOk x _).mono ?_
    rintro e w1 ⟨rfl, b1⟩
    have hok := HO.out
    have q1 := Lib.hid (row_on b1 (g := w.heap.size + 1) (by simp) (heap_alloc2_new w _ _))
    obtain ⟨⟨d0, d1, d2, d3, d4⟩, f0, f1, f2, f3, f4⟩ := row5 q1.out
    have B1 := bthen (Joins.below_alloc2 w _ _) b1
    go_wp2
    (try simp only [Exit.inBlock, Exit.then])
    refine bodyPost_ret (v := .agg #[.int .i64 Ad.zero.k, .int .i64 Ad.zero.a, .int .i64 Ad.zero.b, .int .i64 Ad.zero.c, .int .i64 Ad.zero.d]) ?_ rfl ⟨rfl, by go_grown⟩
    refine res_cell Try.results82 _ _ _ (w.heap.size + 1) _ ?_ (run_loadVar_row _ _ 29 29 _ (0, 0) _ (set5 _ _ _ _ _ q1.out) Try.underlying29 rfl info_addr)
    rfl
  · have HN : n < 0 ∨ x.bits < n := by simp only [hok, true_and] at h; omega
    have HO := Lib.hid hok
    clear h hok
    rcases HN with hn | hn
    · go_enter Try.func82, Try.ntmps82
      go_wp2_with fail
      refine (specAddrOk x _).mono ?_
      rintro e w1 ⟨rfl, b1⟩
      have hok := HO.out
      have q1 := Lib.hid (row_on b1 (g := w.heap.size + 1) (by simp) (heap_alloc2_new w _ _))
      obtain ⟨⟨d0, d1, d2, d3, d4⟩, f0, f1, f2, f3, f4⟩ := row5 q1.out
      have B1 := bthen (Joins.below_alloc2 w _ _) b1
      go_wp2
      (try simp only [Exit.inBlock, Exit.then])
      refine bodyPost_ret (v := .agg #[.int .i64 Ad.zero.k, .int .i64 Ad.zero.a, .int .i64 Ad.zero.b, .int .i64 Ad.zero.c, .int .i64 Ad.zero.d]) ?_ rfl ⟨rfl, by go_grown⟩
      refine res_cell Try.results82 _ _ _ (w.heap.size + 1) _ ?_ (run_loadVar_row _ _ 29 29 _ (0, 0) _ (set5 _ _ _ _ _ q1.out) Try.underlying29 rfl info_addr)
      rfl
    · have hb := bits_bd x
      have hn0 : ¬ n < 0 := by omega
      go_enter Try.func82, Try.ntmps82
      go_wp2_with fail
      refine (specAddrOk x _).mono ?_
      rintro e w1 ⟨rfl, b1⟩
      have hok := HO.out
      have c0 : w1.cell? ⟨w.heap.size, 0, none⟩ = some (.int .i64 x.k) := cell_on b1 (by simp [go_sem])
      have c1 : w1.cell? ⟨w.heap.size, 1, none⟩ = some (.int .i64 x.a) := cell_on b1 (by simp [go_sem])
      have c2 : w1.cell? ⟨w.heap.size, 2, none⟩ = some (.int .i64 x.b) := cell_on b1 (by simp [go_sem])
      have c3 : w1.cell? ⟨w.heap.size, 3, none⟩ = some (.int .i64 x.c) := cell_on b1 (by simp [go_sem])
      have c4 : w1.cell? ⟨w.heap.size, 4, none⟩ = some (.int .i64 x.d) := cell_on b1 (by simp [go_sem])
      have q1 := Lib.hid (row_on b1 (g := w.heap.size + 1) (by simp) (heap_alloc2_new w _ _))
      have B1 := bthen (Joins.below_alloc2 w _ _) b1
      clear b1
      go_wp2_with fail
      refine (specBits x _).mono ?_
      rintro e w2 ⟨rfl, b2⟩
      have q2 := Lib.hid (row_on b2 (row_lt q1.out) q1.out)
      obtain ⟨⟨d0, d1, d2, d3, d4⟩, f0, f1, f2, f3, f4⟩ := row5 q2.out
      have B2 := bthen B1 b2
      clear c0 c1 c2 c3 c4
      go_wp2
      (try simp only [Exit.inBlock, Exit.then])
      refine bodyPost_ret (v := .agg #[.int .i64 Ad.zero.k, .int .i64 Ad.zero.a, .int .i64 Ad.zero.b, .int .i64 Ad.zero.c, .int .i64 Ad.zero.d]) ?_ rfl ⟨rfl, by go_grown⟩
      refine res_cell Try.results82 _ _ _ (w.heap.size + 1) _ ?_ (run_loadVar_row _ _ 29 29 _ (0, 0) _ (set5 _ _ _ _ _ q2.out) Try.underlying29 rfl info_addr)
      rfl
end Go.Proofs.Ytdndanbalmoklaa
