/-
  AddrRead in the model: a text that is too long, and one whose parts are too many or too few.
-/
import Derived.Test.YtckakpcjbndijabDoorGroupSpec
import Derived.Test.YtckakpcjbndijabDoorReadLib3
import Derived.Test.YtckakpcjbndijabDoorTextSpec
import Derived.Test.YtckakpcjbndijabDoorAddrOf
namespace Go.Proofs.YtckakpcjbndijabDoor
open Go.RowKit

set_option maxRecDepth 100000 in
set_option maxHeartbeats 1000000 in
theorem specRead_long (s : ByteArray) (w : World) (hs : s.size ≤ 1048576) (h : 39 < s.size) : Calls Tryd.prog 12 #[.string s] w (ReadOut (rdA s.data.toList) w) := by
  have HN := Lib.hid (read_long (s := s.data.toList) h)
  have hI : (39 : Int) < (s.size : Int) := by omega
  clear h
  go_enter Tryd.func12, Tryd.ntmps12
  go_wp2
  go_returns
  exact readOut_no HN.out (by go_grown)

set_option maxRecDepth 100000 in
/-- The parts by their numbers. -/
theorem groupC (c : UInt8) (s : ByteArray) (hs : s.size ≤ 39) (ps : List (List UInt8)) (N : Nat) (C : Int) (hps : splitC c s.data.toList = ps) (hN : ps.length = N) (hC : (c.toNat : Int) = C) (v : World) :
    Calls Tryd.prog 35 #[.string s, .int .u8 C] v fun e w' => ∃ g k, e = .returned (.slice (some ⟨g, 0, none⟩) N k) ∧ v.heap.size ≤ g ∧ (∀ (j : Nat) (p : List UInt8), ps[j]? = some p → w'.cell? ⟨g, j, none⟩ = some (.string (strOf p))) ∧ Below v.heap.size v w' := by
  subst hps hN hC
  exact specGroup c s v (by omega)

set_option maxRecDepth 100000 in
set_option maxHeartbeats 1000000 in
theorem specRead_none (s : ByteArray) (w : World) (hs : s.size ≤ 39) (h4 : ¬ (splitC 46 s.data.toList).length = 4) (h8 : ¬ (splitC 58 s.data.toList).length = 8) : Calls Tryd.prog 12 #[.string s] w (ReadOut (rdA s.data.toList) w) := by
  have HN := Lib.hid (read_none h4 h8)
  obtain ⟨ps, hps⟩ : ∃ ps, splitC 46 s.data.toList = ps := ⟨_, rfl⟩
  obtain ⟨qs, hqs⟩ : ∃ qs, splitC 58 s.data.toList = qs := ⟨_, rfl⟩
  obtain ⟨N, hN⟩ : ∃ N, ps.length = N := ⟨_, rfl⟩
  obtain ⟨M, hM⟩ : ∃ M, qs.length = M := ⟨_, rfl⟩
  have G4 := Lib.hid (groupC 46 s hs ps N 46 hps hN rfl)
  have G6 := Lib.hid (groupC 58 s hs qs M 58 hqs hM rfl)
  rw [hps, hN] at h4
  rw [hqs, hM] at h8
  have e4 : ((N : Int) == 4) = false := by simp; omega
  have e8 : ((M : Int) == 8) = false := by simp; omega
  have hI : ¬ (39 : Int) < (s.size : Int) := by omega
  clear h4 h8 hps hqs hN hM
  go_enter Tryd.func12, Tryd.ntmps12
  go_wp2_with fail
  refine (G4.out _).mono ?_
  rintro e w1 ⟨g4, k4, rfl, _, _, b1⟩
  go_wp2_with fail
  refine (G6.out _).mono ?_
  rintro e w2 ⟨g6, k6, rfl, _, _, b2⟩
  have q2 := Lib.hid (row_on b2 (row_lt (row_on b1 (g := w.heap.size) (by simp; omega) (heap_alloc2_old w _ _))) (row_on b1 (g := w.heap.size) (by simp; omega) (heap_alloc2_old w _ _)))
  have B2 := Lib.hid (bthen (bthen (Joins.below_alloc2 w _ _) b1) b2)
  have ao := Lib.hid (show Calls Tryd.prog 38 #[.slice (some ⟨w.heap.size + 1, 0, none⟩) 0 0] w2 fun e w' => e = .returned (.tuple #[.agg #[.int .i64 0, .int .i64 0, .int .i64 0, .int .i64 0, .int .i64 0], .bool false]) ∧ Below w2.heap.size w2 w' from specAddrOf (some ⟨w.heap.size + 1, 0, none⟩) 0 0 [] w2 (RB.nil_ _ _ _) rfl (by omega))
  clear b1 b2
  go_wp2_with fail
  refine ao.out.mono ?_
  rintro e w3 ⟨rfl, b3⟩
  have q3 := row_on b3 (row_lt q2.out) q2.out
  have q4 := Lib.hid (row_on (Joins.below_alloc1 w3 (.cells #[.int .i64 0, .int .i64 0, .int .i64 0, .int .i64 0, .int .i64 0] 25)) (row_lt q3) q3)
  obtain ⟨⟨c0, c1, c2, c3, c4⟩, f0, f1, f2, f3, f4⟩ := row5 q4.out
  have B3 := bthen B2.out b3
  have B4 := B3.alloc B3.size (.cells #[.int .i64 0, .int .i64 0, .int .i64 0, .int .i64 0, .int .i64 0] 25)
  clear q3 B3 b3
  go_wp2
  (try simp only [Exit.inBlock, Exit.then])
  refine bodyPost_ret (v := .tuple #[.agg #[.int .i64 0, .int .i64 0, .int .i64 0, .int .i64 0, .int .i64 0], .bool false]) ?_ rfl (readOut_no HN.out (((((B4.setCell (p := ⟨w.heap.size, 0, none⟩) (Nat.le_refl _) _).setCell (p := ⟨w.heap.size, 1, none⟩) (Nat.le_refl _) _).setCell (p := ⟨w.heap.size, 2, none⟩) (Nat.le_refl _) _).setCell (p := ⟨w.heap.size, 3, none⟩) (Nat.le_refl _) _).setCell (p := ⟨w.heap.size, 4, none⟩) (Nat.le_refl _) _))
  refine res_cell_tmp Tryd.results12 _ _ _ w.heap.size _ ?_ (run_loadVar_row _ _ 25 25 _ (0, 0) _ (set5 _ _ _ _ _ q4.out) Tryd.underlying25 rfl info_addr)
  rfl
end Go.Proofs.YtckakpcjbndijabDoor
