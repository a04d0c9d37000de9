/-
  What the program's reader takes for a datagram. What bytes are read as: an upper layer, its options and body, a code. Plain: nothing here speaks of the program. The program's reader over no bytes at all. What the program's reader takes for each format. The kind that a protocol names, in the program and in the model.
-/
import Derived.Test.YthogonpjkngpjaaRc32
import Derived.Test.YthogonpjkngpjaaRc11
import Derived.Test.YthogonpjkngpjaaRc31
import Derived.Lib.SliceRun
import Derived.Test.YthogonpjkngpjaaRc14
import Derived.Test.YthogonpjkngpjaaRc03
namespace Go.Proofs.Ythogonpjkngpjaa
set_option maxRecDepth 100000
open Go.RowKit
set_option maxHeartbeats 4000000 in
theorem udpOf_no (w : World) (g : Nat) (a : Addr) (n c : Nat) (bs : List UInt8) (sport dport sz : Nat) (h : Rp w g (some a) n c bs 0) (hn : 8 ≤ n) (e0 : num bs 0 2 = sport) (e1 : num bs 2 2 = dport) (e2 : num bs 4 2 = sz) (hs : ¬ sz = n) : Calls Try.prog 89 #[.pointer (some ⟨g, 0, none⟩)] w fun e w' => e = .returned (.tuple #[.agg #[.int .i64 0, .int .i64 0, .int .i64 0, .int .i64 0, .int .i64 0, .int .i64 0, .int .i64 0, .int .i64 0, .int .i64 0, .int .i64 0, .int .i64 0, .bool false, .slice none 0 0, .slice none 0 0], .int .i64 0, .int .i64 5]) ∧ w.grownBy w' (some g) := by
  have hg := h.lt
  have hsm := h.small
  have HLN := Lib.hid h.len
  have r0 := Lib.hid (h.below (Joins.below_alloc1 w (.cells #[.int .i64 0, .int .i64 0, .int .i64 0, .int .i64 0, .int .i64 0, .int .i64 0, .int .i64 0, .int .i64 0, .int .i64 0, .int .i64 0, .int .i64 0, .bool false, .slice none 0 0, .slice none 0 0] 36)))
  have z0 := Lib.hid (K.new w (.cells #[.int .i64 0, .int .i64 0, .int .i64 0, .int .i64 0, .int .i64 0, .int .i64 0, .int .i64 0, .int .i64 0, .int .i64 0, .int .i64 0, .int .i64 0, .bool false, .slice none 0 0, .slice none 0 0] 36))
  have G0 := Lib.hid (show w.grownBy (w.alloc (.cells #[.int .i64 0, .int .i64 0, .int .i64 0, .int .i64 0, .int .i64 0, .int .i64 0, .int .i64 0, .int .i64 0, .int .i64 0, .int .i64 0, .int .i64 0, .bool false, .slice none 0 0, .slice none 0 0] 36)) (some g) from only_new (K.refl w _) _)
  clear h
  have E0 := Lib.hid e0
  clear e0
  have E1 := Lib.hid e1
  clear e1
  have E2 := Lib.hid e2
  clear e2
  have hne : ((sz : Int) != (n : Int)) = true := by simp; omega
  have hne2 : ¬ (sz : Int) = (n : Int) := by omega
  go_enter Try.func89, Try.ntmps89
  go_wp2_with fail
  refine Calls.mono (leftP _ g (some a) n c bs 0 n r0.out (by omega)) ?_
  rintro e v0 ⟨rfl, bb⟩
  have ra := Lib.hid (r0.out.below bb)
  have za := Lib.hid (K.below bb z0.out)
  have Ga := Lib.hid (grownBy_trans G0.out (below_grown bb _))
  clear bb r0 z0 G0
  have hzb : w.heap.size < v0.heap.size := K.lt za.out
  have q0 : Hid ((v0.alloc (.cells #[.int .i64 2, .int .i64 0, .int .i64 0, .int .i64 0, .int .i64 0, .int .i64 0, .int .i64 0, .int .i64 0, .int .i64 0, .int .i64 0, .int .i64 0, .bool false, .slice none 0 0, .slice none 0 0] 36)).heap[v0.heap.size]? = some (.cells #[.int .i64 2, .int .i64 0, .int .i64 0, .int .i64 0, .int .i64 0, .int .i64 0, .int .i64 0, .int .i64 0, .int .i64 0, .int .i64 0, .int .i64 0, .bool false, .slice none 0 0, .slice none 0 0] 36 (0, 0))) := Lib.hid (K.new v0 _)
  have z0 := Lib.hid (K.old za.out (.cells #[.int .i64 2, .int .i64 0, .int .i64 0, .int .i64 0, .int .i64 0, .int .i64 0, .int .i64 0, .int .i64 0, .int .i64 0, .int .i64 0, .int .i64 0, .bool false, .slice none 0 0, .slice none 0 0] 36))
  have G0 := Lib.hid (only_new Ga.out (.cells #[.int .i64 2, .int .i64 0, .int .i64 0, .int .i64 0, .int .i64 0, .int .i64 0, .int .i64 0, .int .i64 0, .int .i64 0, .int .i64 0, .int .i64 0, .bool false, .slice none 0 0, .slice none 0 0] 36))
  have r0 := Lib.hid (ra.out.below (Joins.below_alloc1 v0 (.cells #[.int .i64 2, .int .i64 0, .int .i64 0, .int .i64 0, .int .i64 0, .int .i64 0, .int .i64 0, .int .i64 0, .int .i64 0, .int .i64 0, .int .i64 0, .bool false, .slice none 0 0, .slice none 0 0] 36)))
  go_wp2_with (with_reducible refine storeNewU rfl _ _ rfl rfl rfl ?_)
  clear za Ga ra
  generalize (v0.alloc (.cells #[.int .i64 2, .int .i64 0, .int .i64 0, .int .i64 0, .int .i64 0, .int .i64 0, .int .i64 0, .int .i64 0, .int .i64 0, .int .i64 0, .int .i64 0, .bool false, .slice none 0 0, .slice none 0 0] 36)) = u0 at q0 z0 G0 r0 ⊢
  refine Calls.mono (numberP _ g (some a) n c bs 0 2 sport E0.out r0.out (by omega) (by omega) (by omega)) ?_
  rintro e v1 ⟨rfl, rr, gg⟩
  have q1_ := Lib.hid (K.kept gg q0.out (fun u hu => by cases hu; omega))
  have z1_ := Lib.hid (K.kept gg z0.out (fun u hu => by cases hu; omega))
  have G1_ := Lib.hid (grownBy_trans G0.out gg)
  have r1_ := Lib.hid rr
  clear rr gg q0 z0 G0 r0
  have uu := K.cell q1_.out 1 _ rfl
  have yy := frozen_of_row _ _ 1 _ _ q1_.out
  have q1 : Hid ((v1.setCell ⟨v0.heap.size, 1, none⟩ (.int .i64 (sport : Int))).heap[v0.heap.size]? = some (.cells #[.int .i64 2, .int .i64 (sport : Int), .int .i64 0, .int .i64 0, .int .i64 0, .int .i64 0, .int .i64 0, .int .i64 0, .int .i64 0, .int .i64 0, .int .i64 0, .bool false, .slice none 0 0, .slice none 0 0] 36 (0, 0))) := Lib.hid (K.set q1_.out 1 _)
  have z1 := Lib.hid (K.other z1_.out v0.heap.size 1 (.int .i64 (sport : Int)) (by omega))
  have G1 := Lib.hid (grown_other G1_.out (grownBy_set v1 v0.heap.size 1 (.int .i64 (sport : Int))) (fun u hu => by cases hu; omega))
  have r1 := Lib.hid (r1_.out.away (grownBy_set v1 v0.heap.size 1 (.int .i64 (sport : Int))) (fun u hu => by cases hu; omega))
  go_wp2_with fail
  clear uu yy q1_ z1_ G1_ r1_
  generalize (v1.setCell ⟨v0.heap.size, 1, none⟩ (.int .i64 (sport : Int))) = u1 at q1 z1 G1 r1 ⊢
  refine Calls.mono (numberP _ g (some a) n c bs 2 2 dport E1.out r1.out (by omega) (by omega) (by omega)) ?_
  rintro e v2 ⟨rfl, rr, gg⟩
  have q2_ := Lib.hid (K.kept gg q1.out (fun u hu => by cases hu; omega))
  have z2_ := Lib.hid (K.kept gg z1.out (fun u hu => by cases hu; omega))
  have G2_ := Lib.hid (grownBy_trans G1.out gg)
  have r2_ := Lib.hid rr
  clear rr gg q1 z1 G1 r1
  have uu := K.cell q2_.out 2 _ rfl
  have yy := frozen_of_row _ _ 2 _ _ q2_.out
  have q2 : Hid ((v2.setCell ⟨v0.heap.size, 2, none⟩ (.int .i64 (dport : Int))).heap[v0.heap.size]? = some (.cells #[.int .i64 2, .int .i64 (sport : Int), .int .i64 (dport : Int), .int .i64 0, .int .i64 0, .int .i64 0, .int .i64 0, .int .i64 0, .int .i64 0, .int .i64 0, .int .i64 0, .bool false, .slice none 0 0, .slice none 0 0] 36 (0, 0))) := Lib.hid (K.set q2_.out 2 _)
  have z2 := Lib.hid (K.other z2_.out v0.heap.size 2 (.int .i64 (dport : Int)) (by omega))
  have G2 := Lib.hid (grown_other G2_.out (grownBy_set v2 v0.heap.size 2 (.int .i64 (dport : Int))) (fun u hu => by cases hu; omega))
  have r2 := Lib.hid (r2_.out.away (grownBy_set v2 v0.heap.size 2 (.int .i64 (dport : Int))) (fun u hu => by cases hu; omega))
  go_wp2_with fail
  clear uu yy q2_ z2_ G2_ r2_
  generalize (v2.setCell ⟨v0.heap.size, 2, none⟩ (.int .i64 (dport : Int))) = u2 at q2 z2 G2 r2 ⊢
  refine Calls.mono (numberP _ g (some a) n c bs 4 2 sz E2.out r2.out (by omega) (by omega) (by omega)) ?_
  rintro e v3 ⟨rfl, rr, gg⟩
  have q3_ := Lib.hid (K.kept gg q2.out (fun u hu => by cases hu; omega))
  have z3_ := Lib.hid (K.kept gg z2.out (fun u hu => by cases hu; omega))
  have G3_ := Lib.hid (grownBy_trans G2.out gg)
  have r3_ := Lib.hid rr
  clear rr gg q2 z2 G2 r2
  have q3 := q3_
  have z3 := z3_
  have G3 := G3_
  have r3 := r3_
  clear q3_ z3_ G3_ r3_
  go_wp2_with (with_reducible refine storeU rfl _ _ rfl w.heap.size rfl rfl z3.out ?_)
  (try simp only [Exit.inBlock, Exit.then])
  refine bodyPost_ret (v := .tuple #[.agg #[.int .i64 0, .int .i64 0, .int .i64 0, .int .i64 0, .int .i64 0, .int .i64 0, .int .i64 0, .int .i64 0, .int .i64 0, .int .i64 0, .int .i64 0, .bool false, .slice none 0 0, .slice none 0 0], .int .i64 0, .int .i64 5]) ?_ rfl ⟨rfl, grown_other G3.out (K.setRow_grown _ _ _) (fun u hu => by cases hu; exact Nat.le_refl _)⟩
  exact K.resCell3 Try.results89 _ _ _ w.heap.size _ rfl (run_loadVar_row _ _ 36 36 _ (0, 0) _ (setRow_heap _ _ _ _ _ _ z3.out) Try.underlying36 rfl info_up)
set_option maxHeartbeats 4000000 in
theorem udpOf_yes (w : World) (g : Nat) (a : Addr) (n c : Nat) (bs : List UInt8) (l : Nat) (sport dport sm : Nat) (h : Rp w g (some a) n c bs 0) (hl : 8 + l = n) (e0 : num bs 0 2 = sport) (e1 : num bs 2 2 = dport) (e2 : num bs 4 2 = n) (e3 : num bs 6 2 = sm) : Calls Try.prog 89 #[.pointer (some ⟨g, 0, none⟩)] w fun e w' => ∃ D d, e = .returned (.tuple #[.agg #[.int .i64 2, .int .i64 (sport : Int), .int .i64 (dport : Int), .int .i64 0, .int .i64 0, .int .i64 0, .int .i64 0, .int .i64 0, .int .i64 0, .int .i64 0, .int .i64 0, .bool false, .slice none 0 0, .slice D l d], .int .i64 (sm : Int), .int .i64 0]) ∧ w'.ownsRow w.heap.size 5 1 (.slice D l d) l (cellsOf (bs.drop 8)) ∧ w.grownBy w' (some g) := by
  have hg := h.lt
  have hsm := h.small
  have HLN := Lib.hid h.len
  have r0 := Lib.hid (h.below (Joins.below_alloc1 w (.cells #[.int .i64 0, .int .i64 0, .int .i64 0, .int .i64 0, .int .i64 0, .int .i64 0, .int .i64 0, .int .i64 0, .int .i64 0, .int .i64 0, .int .i64 0, .bool false, .slice none 0 0, .slice none 0 0] 36)))
  have z0 := Lib.hid (K.new w (.cells #[.int .i64 0, .int .i64 0, .int .i64 0, .int .i64 0, .int .i64 0, .int .i64 0, .int .i64 0, .int .i64 0, .int .i64 0, .int .i64 0, .int .i64 0, .bool false, .slice none 0 0, .slice none 0 0] 36))
  have G0 := Lib.hid (show w.grownBy (w.alloc (.cells #[.int .i64 0, .int .i64 0, .int .i64 0, .int .i64 0, .int .i64 0, .int .i64 0, .int .i64 0, .int .i64 0, .int .i64 0, .int .i64 0, .int .i64 0, .bool false, .slice none 0 0, .slice none 0 0] 36)) (some g) from only_new (K.refl w _) _)
  clear h
  have E0 := Lib.hid e0
  clear e0
  have E1 := Lib.hid e1
  clear e1
  have E2 := Lib.hid e2
  clear e2
  have E3 := Lib.hid e3
  clear e3
  have HD := Lib.hid (show (bs.drop 8).take l = bs.drop 8 by rw [List.take_of_length_le]; rw [List.length_drop, HLN.out]; omega)
  have hne : ((n : Int) != (n : Int)) = false := by simp
  have hne2 : (n : Int) = (n : Int) := rfl
  go_enter Try.func89, Try.ntmps89
  go_wp2_with fail
  refine Calls.mono (leftP _ g (some a) n c bs 0 n r0.out (by omega)) ?_
  rintro e v0 ⟨rfl, bb⟩
  have ra := Lib.hid (r0.out.below bb)
  have za := Lib.hid (K.below bb z0.out)
  have Ga := Lib.hid (grownBy_trans G0.out (below_grown bb _))
  clear bb r0 z0 G0
  have hzb : w.heap.size < v0.heap.size := K.lt za.out
  have q0 : Hid ((v0.alloc (.cells #[.int .i64 2, .int .i64 0, .int .i64 0, .int .i64 0, .int .i64 0, .int .i64 0, .int .i64 0, .int .i64 0, .int .i64 0, .int .i64 0, .int .i64 0, .bool false, .slice none 0 0, .slice none 0 0] 36)).heap[v0.heap.size]? = some (.cells #[.int .i64 2, .int .i64 0, .int .i64 0, .int .i64 0, .int .i64 0, .int .i64 0, .int .i64 0, .int .i64 0, .int .i64 0, .int .i64 0, .int .i64 0, .bool false, .slice none 0 0, .slice none 0 0] 36 (0, 0))) := Lib.hid (K.new v0 _)
  have z0 := Lib.hid (K.old za.out (.cells #[.int .i64 2, .int .i64 0, .int .i64 0, .int .i64 0, .int .i64 0, .int .i64 0, .int .i64 0, .int .i64 0, .int .i64 0, .int .i64 0, .int .i64 0, .bool false, .slice none 0 0, .slice none 0 0] 36))
  have G0 := Lib.hid (only_new Ga.out (.cells #[.int .i64 2, .int .i64 0, .int .i64 0, .int .i64 0, .int .i64 0, .int .i64 0, .int .i64 0, .int .i64 0, .int .i64 0, .int .i64 0, .int .i64 0, .bool false, .slice none 0 0, .slice none 0 0] 36))
  have r0 := Lib.hid (ra.out.below (Joins.below_alloc1 v0 (.cells #[.int .i64 2, .int .i64 0, .int .i64 0, .int .i64 0, .int .i64 0, .int .i64 0, .int .i64 0, .int .i64 0, .int .i64 0, .int .i64 0, .int .i64 0, .bool false, .slice none 0 0, .slice none 0 0] 36)))
  go_wp2_with (with_reducible refine storeNewU rfl _ _ rfl rfl rfl ?_)
  clear za Ga ra
  generalize (v0.alloc (.cells #[.int .i64 2, .int .i64 0, .int .i64 0, .int .i64 0, .int .i64 0, .int .i64 0, .int .i64 0, .int .i64 0, .int .i64 0, .int .i64 0, .int .i64 0, .bool false, .slice none 0 0, .slice none 0 0] 36)) = u0 at q0 z0 G0 r0 ⊢
  refine Calls.mono (numberP _ g (some a) n c bs 0 2 sport E0.out r0.out (by omega) (by omega) (by omega)) ?_
  rintro e v1 ⟨rfl, rr, gg⟩
  have q1_ := Lib.hid (K.kept gg q0.out (fun u hu => by cases hu; omega))
  have z1_ := Lib.hid (K.kept gg z0.out (fun u hu => by cases hu; omega))
  have G1_ := Lib.hid (grownBy_trans G0.out gg)
  have r1_ := Lib.hid rr
  clear rr gg q0 z0 G0 r0
  have uu := K.cell q1_.out 1 _ rfl
  have yy := frozen_of_row _ _ 1 _ _ q1_.out
  have q1 : Hid ((v1.setCell ⟨v0.heap.size, 1, none⟩ (.int .i64 (sport : Int))).heap[v0.heap.size]? = some (.cells #[.int .i64 2, .int .i64 (sport : Int), .int .i64 0, .int .i64 0, .int .i64 0, .int .i64 0, .int .i64 0, .int .i64 0, .int .i64 0, .int .i64 0, .int .i64 0, .bool false, .slice none 0 0, .slice none 0 0] 36 (0, 0))) := Lib.hid (K.set q1_.out 1 _)
  have z1 := Lib.hid (K.other z1_.out v0.heap.size 1 (.int .i64 (sport : Int)) (by omega))
  have G1 := Lib.hid (grown_other G1_.out (grownBy_set v1 v0.heap.size 1 (.int .i64 (sport : Int))) (fun u hu => by cases hu; omega))
  have r1 := Lib.hid (r1_.out.away (grownBy_set v1 v0.heap.size 1 (.int .i64 (sport : Int))) (fun u hu => by cases hu; omega))
  go_wp2_with fail
  clear uu yy q1_ z1_ G1_ r1_
  generalize (v1.setCell ⟨v0.heap.size, 1, none⟩ (.int .i64 (sport : Int))) = u1 at q1 z1 G1 r1 ⊢
  refine Calls.mono (numberP _ g (some a) n c bs 2 2 dport E1.out r1.out (by omega) (by omega) (by omega)) ?_
  rintro e v2 ⟨rfl, rr, gg⟩
  have q2_ := Lib.hid (K.kept gg q1.out (fun u hu => by cases hu; omega))
  have z2_ := Lib.hid (K.kept gg z1.out (fun u hu => by cases hu; omega))
  have G2_ := Lib.hid (grownBy_trans G1.out gg)
  have r2_ := Lib.hid rr
  clear rr gg q1 z1 G1 r1
  have uu := K.cell q2_.out 2 _ rfl
  have yy := frozen_of_row _ _ 2 _ _ q2_.out
  have q2 : Hid ((v2.setCell ⟨v0.heap.size, 2, none⟩ (.int .i64 (dport : Int))).heap[v0.heap.size]? = some (.cells #[.int .i64 2, .int .i64 (sport : Int), .int .i64 (dport : Int), .int .i64 0, .int .i64 0, .int .i64 0, .int .i64 0, .int .i64 0, .int .i64 0, .int .i64 0, .int .i64 0, .bool false, .slice none 0 0, .slice none 0 0] 36 (0, 0))) := Lib.hid (K.set q2_.out 2 _)
  have z2 := Lib.hid (K.other z2_.out v0.heap.size 2 (.int .i64 (dport : Int)) (by omega))
  have G2 := Lib.hid (grown_other G2_.out (grownBy_set v2 v0.heap.size 2 (.int .i64 (dport : Int))) (fun u hu => by cases hu; omega))
  have r2 := Lib.hid (r2_.out.away (grownBy_set v2 v0.heap.size 2 (.int .i64 (dport : Int))) (fun u hu => by cases hu; omega))
  go_wp2_with fail
  clear uu yy q2_ z2_ G2_ r2_
  generalize (v2.setCell ⟨v0.heap.size, 2, none⟩ (.int .i64 (dport : Int))) = u2 at q2 z2 G2 r2 ⊢
  refine Calls.mono (numberP _ g (some a) n c bs 4 2 n E2.out r2.out (by omega) (by omega) (by omega)) ?_
  rintro e v3 ⟨rfl, rr, gg⟩
  have q3_ := Lib.hid (K.kept gg q2.out (fun u hu => by cases hu; omega))
  have z3_ := Lib.hid (K.kept gg z2.out (fun u hu => by cases hu; omega))
  have G3_ := Lib.hid (grownBy_trans G2.out gg)
  have r3_ := Lib.hid rr
  clear rr gg q2 z2 G2 r2
  have q3 := q3_
  have z3 := z3_
  have G3 := G3_
  have r3 := r3_
  clear q3_ z3_ G3_ r3_
  go_wp2_with fail
  refine Calls.mono (numberP _ g (some a) n c bs 6 2 sm E3.out r3.out (by omega) (by omega) (by omega)) ?_
  rintro e v4 ⟨rfl, rr, gg⟩
  have q4_ := Lib.hid (K.kept gg q3.out (fun u hu => by cases hu; omega))
  have z4_ := Lib.hid (K.kept gg z3.out (fun u hu => by cases hu; omega))
  have G4_ := Lib.hid (grownBy_trans G3.out gg)
  have r4_ := Lib.hid rr
  clear rr gg q3 z3 G3 r3
  have q4 := q4_
  have z4 := z4_
  have G4 := G4_
  have r4 := r4_
  clear q4_ z4_ G4_ r4_
  go_wp2_with fail
  refine wp_region_grow (w := v4) (some g) (by kernel_rfl) 9 45 [(0, 34), (1, 35), (2, 36), (3, 37), (4, 38), (5, 39), (6, 40), (7, 41), (8, 42)] _ ([.val (.pointer (some ⟨g, 0, none⟩)), .val (.pointer (some ⟨g, 0, none⟩)), .val (.pointer (some ⟨g, 0, none⟩)), .val (.pointer (some ⟨g, 0, none⟩)), .val (.pointer (some ⟨g, 0, none⟩)), .val (.pointer (some ⟨g, 0, none⟩)), .val (.int .i64 (l : Int)), .any, .val (.pointer (some ⟨v0.heap.size, 13, none⟩))]) (by kernel_rfl) (by kernel_rfl) rfl 7 41 (by omega) (by decide) rfl (fun b' v => w.grownBy v (some g) ∧ v.heap[v0.heap.size]? = some (.cells #[.int .i64 2, .int .i64 (sport : Int), .int .i64 (dport : Int), .int .i64 0, .int .i64 0, .int .i64 0, .int .i64 0, .int .i64 0, .int .i64 0, .int .i64 0, .int .i64 0, .bool false, .slice none 0 0, .slice none 0 0] 36 (0, 0)) ∧ v.heap[w.heap.size]? = some (.cells #[.int .i64 0, .int .i64 0, .int .i64 0, .int .i64 0, .int .i64 0, .int .i64 0, .int .i64 0, .int .i64 0, .int .i64 0, .int .i64 0, .int .i64 0, .bool false, .slice none 0 0, .slice none 0 0] 36 (0, 0)) ∧ v4.heap.size ≤ v.heap.size ∧ (b' = false → Rp v g (some a) n c bs 8)) (fun b' v v' hb h => ⟨grownBy_trans h.1 (below_grown hb _), K.below hb h.2.1, K.below hb h.2.2.1, Nat.le_trans h.2.2.2.1 hb.size, fun e => (h.2.2.2.2 e).below hb⟩) ⟨⟨G4.out.os, G4.out.tape, G4.out.output, G4.out.size, G4.out.block⟩, q4.out, z4.out, Nat.le_refl _, fun _ => ⟨r4.out.blk, r4.out.rb, r4.out.len, r4.out.small, r4.out.cap⟩⟩ (OwnB v4.heap.size l (bs.drop 8)) (fun v v' u hb h => OwnB.on v v' u hb h) ?_ ?_ ?_
  · intro j o hj hjp ho b' a' v K' hbt hx hnd hJJ hK
    match j, hj, hjp, ho with
    | 0, _, _, ho =>
      obtain rfl := Option.some.inj ho
      have h0 : a'.eval (.tmp 0) = .pointer (some ⟨g, 0, none⟩) := (hx 0 (by decide)).trans rfl
      exact u_move _ _ rfl h0 (hK _ _ rfl (Below.refl _ _))
    | 1, _, _, ho =>
      obtain rfl := Option.some.inj ho
      have h0 : a'.eval (.tmp 34) = .pointer (some ⟨g, 0, none⟩) := (grow_of hnd 0 34 (by kernel_rfl) (by decide) :)
      exact t_nil _ _ rfl h0 (hK _ _ rfl (Below.refl _ _))
    | 2, _, _, ho =>
      obtain rfl := Option.some.inj ho
      have h0 : a'.eval (.tmp 35) = .pointer (some ⟨g, 0, none⟩) := (grow_of hnd 1 35 (by kernel_rfl) (by decide) :)
      exact t_fldR _ _ rfl h0 (hK _ _ rfl (Below.refl _ _))
    | 3, _, _, ho =>
      obtain rfl := Option.some.inj ho
      have h0 : a'.eval (.tmp 0) = .pointer (some ⟨g, 0, none⟩) := (hx 0 (by decide)).trans rfl
      exact u_move _ _ rfl h0 (hK _ _ rfl (Below.refl _ _))
    | 4, _, _, ho =>
      obtain rfl := Option.some.inj ho
      have h0 : a'.eval (.tmp 37) = .pointer (some ⟨g, 0, none⟩) := (grow_of hnd 3 37 (by kernel_rfl) (by decide) :)
      exact t_nil _ _ rfl h0 (hK _ _ rfl (Below.refl _ _))
    | 5, _, _, ho =>
      obtain rfl := Option.some.inj ho
      have h0 : a'.eval (.tmp 38) = .pointer (some ⟨g, 0, none⟩) := (grow_of hnd 4 38 (by kernel_rfl) (by decide) :)
      exact t_fldR _ _ rfl h0 (hK _ _ rfl (Below.refl _ _))
    | 6, _, _, ho =>
      obtain rfl := Option.some.inj ho
      have h0 : a'.eval (.tmp 39) = .pointer (some ⟨g, 0, none⟩) := (grow_of hnd 5 39 (by kernel_rfl) (by decide) :)
      cases b' with
      | false =>
        refine t_left _ _ _ rfl h0 (Calls.mono (leftP v g (some a) n c bs 8 l (hJJ.2.2.2.2 rfl) (by omega)) ?_)
        rintro e' v' ⟨rfl, b6⟩
        exact ⟨_, rfl, hK _ _ rfl b6⟩
      | true =>
        exact absurd (hbt (by kernel_rfl)) (by simp)
    | 7, _, hjp, _ => exact absurd rfl hjp
    | 8, _, _, ho =>
      obtain rfl := Option.some.inj ho
      have h0 : a'.eval (.tmp 6) = .pointer (some ⟨v0.heap.size, 0, none⟩) := (hx 6 (by decide)).trans rfl
      exact u_fldU13 _ _ rfl h0 (hK _ _ rfl (Below.refl _ _))
    | j + 9, hj, _, _ => omega
  · intro o ho a' v K' hx hnd hJJ hK
    obtain rfl := Option.some.inj ho
    have h0 : a'.eval (.tmp 36) = .pointer (some ⟨g, 0, none⟩) := (grow_of hnd 2 36 (by kernel_rfl) (by decide) :)
    have h1 : a'.eval (.tmp 40) = .int .i64 (l : Int) := (grow_of hnd 6 40 (by kernel_rfl) (by decide) :)
    refine t_take _ _ _ _ _ rfl h0 h1 (Calls.mono (takeP v g a n c bs 8 l (hJJ.2.2.2.2 rfl) (by omega)) ?_)
    rintro e' v' ⟨E', k', rfl, o8, r8, g8⟩
    rw [HD.out] at o8
    exact ⟨_, rfl, hK _ _ ⟨E', k', rfl, own_base o8 hJJ.2.2.2.1⟩ g8 ⟨grownBy_trans hJJ.1 g8, K.kept g8 hJJ.2.1 (fun u hu => by cases hu; omega), K.kept g8 hJJ.2.2.1 (fun u hu => by cases hu; omega), Nat.le_trans hJJ.2.2.2.1 g8.size, (fun e => by cases e)⟩⟩
  · intro f v hf OG hJJ
    have e0 : f 0 = (.pointer (some ⟨g, 0, none⟩)) := hf (0, 34) (by decide) (by decide)
    have e1 : f 1 = (.pointer (some ⟨g, 0, none⟩)) := hf (1, 35) (by decide) (by decide)
    have e2 : f 2 = (.pointer (some ⟨g, 0, none⟩)) := hf (2, 36) (by decide) (by decide)
    have e3 : f 3 = (.pointer (some ⟨g, 0, none⟩)) := hf (3, 37) (by decide) (by decide)
    have e4 : f 4 = (.pointer (some ⟨g, 0, none⟩)) := hf (4, 38) (by decide) (by decide)
    have e5 : f 5 = (.pointer (some ⟨g, 0, none⟩)) := hf (5, 39) (by decide) (by decide)
    have e6 : f 6 = (.int .i64 (l : Int)) := hf (6, 40) (by decide) (by decide)
    have e8 : f 8 = (.pointer (some ⟨v0.heap.size, 13, none⟩)) := hf (8, 42) (by decide) (by decide)
    simp only [List.foldl_cons, List.foldl_nil, List.drop_succ_cons, List.drop_zero, e0, e1, e2, e3, e4, e5, e6, e8]
    clear e0 e1 e2 e3 e4 e5 e6 e8 hf
    go_simp
    obtain ⟨D, d, e9, oD⟩ := OG
    rw [e9]
    clear e9
    obtain ⟨j1, j2, j3, j4, _⟩ := hJJ
    have lz : v0.heap.size < v4.heap.size := K.lt q4.out
    have u13 := K.cell j2 13 _ rfl
    have y13 := frozen_of_row _ _ 13 _ _ j2
    have qe9 : Hid ((v.setCell ⟨v0.heap.size, 13, none⟩ (.slice D l d)).heap[v0.heap.size]? = some (.cells #[.int .i64 2, .int .i64 (sport : Int), .int .i64 (dport : Int), .int .i64 0, .int .i64 0, .int .i64 0, .int .i64 0, .int .i64 0, .int .i64 0, .int .i64 0, .int .i64 0, .bool false, .slice none 0 0, .slice D l d] 36 (0, 0))) := Lib.hid (K.set j2 13 _)
    have ze9 := Lib.hid (K.other j3 (v0.heap.size) 13 (.slice D l d) (by omega))
    have Oe9 := Lib.hid (own_set oD (v0.heap.size) 13 (.slice D l d) (by omega))
    have Ge9 := Lib.hid (grown_other j1 (grownBy_set v (v0.heap.size) 13 (.slice D l d)) (fun u hu => by cases hu; omega))
    clear j1 j2 j3 j4 oD
    go_wp2_with (first | (with_reducible refine loadU rfl _ rfl (v0.heap.size) rfl qe9.out ?_) | (with_reducible refine storeU rfl _ _ rfl w.heap.size rfl rfl ze9.out ?_))
    (try simp only [Exit.inBlock, Exit.then])
    refine bodyPost_ret (v := .tuple #[.agg #[.int .i64 2, .int .i64 (sport : Int), .int .i64 (dport : Int), .int .i64 0, .int .i64 0, .int .i64 0, .int .i64 0, .int .i64 0, .int .i64 0, .int .i64 0, .int .i64 0, .bool false, .slice none 0 0, .slice D l d], .int .i64 (sm : Int), .int .i64 0]) ?_ rfl ⟨D, d, rfl, own_base (K.setRow_own _ Oe9.out (by omega)) (by omega), grown_other Ge9.out (K.setRow_grown _ _ _) (fun u hu => by cases hu; omega)⟩
    exact K.resCell3 Try.results89 _ _ _ w.heap.size _ rfl (run_loadVar_row _ _ 36 36 _ (0, 0) _ (setRow_heap _ _ _ _ _ _ ze9.out) Try.underlying36 rfl info_up)
def kindU (p k : Int) : Int := if p = 6 then 1 else if p = 17 then 2 else if (p = 1 ∧ k = 4) ∨ (p = 58 ∧ k = 6) then 3 else 0
theorem kindU_cases (p k : Int) : kindU p k = 0 ∨ kindU p k = 1 ∨ kindU p k = 2 ∨ kindU p k = 3 := by
  unfold kindU
  split
  · simp
  · split
    · simp
    · split <;> simp
def tHead (bs : List UInt8) : Nat := 4 * (num bs 12 2 / 4096)
def uhX (bs : List UInt8) (q k : Int) : Uh :=
  if q = 1 then ⟨1, num bs 0 2, num bs 2 2, num bs 4 4, num bs 8 4, (num bs 12 2 : Int) % 4096, num bs 14 2, num bs 18 2, 0, 0, 0, false⟩
  else if q = 2 then ⟨2, num bs 0 2, num bs 2 2, 0, 0, 0, 0, 0, 0, 0, 0, decide (num bs 6 2 = 0) && decide (k = 4)⟩
  else if q = 3 then ⟨3, 0, 0, 0, 0, 0, 0, 0, num bs 0 1, num bs 1 1, num bs 4 4, false⟩
  else Uh.zero
def uhO (bs : List UInt8) (q : Int) : List UInt8 := if q = 1 then (bs.drop 20).take (tHead bs - 20) else []
def uhB (bs : List UInt8) (q : Int) : List UInt8 := if q = 1 then bs.drop (tHead bs) else if q = 2 ∨ q = 3 then bs.drop 8 else bs
def uhS (bs : List UInt8) (q : Int) : Int := if q = 1 then num bs 16 2 else if q = 2 then num bs 6 2 else if q = 3 then num bs 2 2 else 0
def uhC (bs : List UInt8) (p : Int) (s t : Ad) : Int :=
  if 1500 < bs.length then 1 else if (pairA s t && upTo p 255) = false then 2
  else if (kindU p s.k = 1 ∧ bs.length < 20) ∨ (¬ kindU p s.k = 0 ∧ bs.length < 8) then 3
  else if kindU p s.k = 1 ∧ (tHead bs < 20 ∨ bs.length < tHead bs) then 4
  else if kindU p s.k = 2 ∧ ¬ num bs 4 2 = bs.length then 5
  else if ¬ uhS bs (kindU p s.k) = (uhX bs (kindU p s.k) s.k).sum (uhO bs (kindU p s.k)) (uhB bs (kindU p s.k)) s t then 6 else 0
def urx (bs : List UInt8) (p : Int) (s t : Ad) : Uh := if uhC bs p s t = 0 then uhX bs (kindU p s.k) s.k else Uh.zero
def uro (bs : List UInt8) (p : Int) (s t : Ad) : List UInt8 := if uhC bs p s t = 0 then uhO bs (kindU p s.k) else []
def urb (bs : List UInt8) (p : Int) (s t : Ad) : List UInt8 := if uhC bs p s t = 0 then uhB bs (kindU p s.k) else []
def UROut (x : Uh) (os ds : List UInt8) (k : Int) (w : World) (e : Ending) (w' : World) : Prop :=
  ∃ A c D d, e = .returned (.tuple #[.agg #[.int .i64 x.kind, .int .i64 x.sport, .int .i64 x.dport, .int .i64 x.seq, .int .i64 x.ack, .int .i64 x.bits, .int .i64 x.window, .int .i64 x.urgent, .int .i64 x.ty, .int .i64 x.code, .int .i64 x.rest, .bool x.nosum, .slice A os.length c, .slice D ds.length d], .int .i64 k]) ∧
    w'.ownsRow w.heap.size 5 1 (.slice A os.length c) os.length (cellsOf os) ∧ w'.ownsRow w.heap.size 5 1 (.slice D ds.length d) ds.length (cellsOf ds) ∧
    (∀ k, (Value.slice A os.length c).ownBlock = some k → (Value.slice D ds.length d).ownBlock ≠ some k) ∧ Below w.heap.size w w'
def URead (bs : List UInt8) (p : Int) (s t : Ad) (w : World) (e : Ending) (w' : World) : Prop := UROut (urx bs p s t) (uro bs p s t) (urb bs p s t) (uhC bs p s t) w e w'
theorem uread_no {bs : List UInt8} {p : Int} {s t : Ad} {k : Int} (h : uhC bs p s t = k) (hk : k ≠ 0) {w w' : World} (hb : Below w.heap.size w w') : URead bs p s t w (.returned (.tuple #[.agg #[.int .i64 Uh.zero.kind, .int .i64 Uh.zero.sport, .int .i64 Uh.zero.dport, .int .i64 Uh.zero.seq, .int .i64 Uh.zero.ack, .int .i64 Uh.zero.bits, .int .i64 Uh.zero.window, .int .i64 Uh.zero.urgent, .int .i64 Uh.zero.ty, .int .i64 Uh.zero.code, .int .i64 Uh.zero.rest, .bool Uh.zero.nosum, .slice none 0 0, .slice none 0 0], .int .i64 k])) w' := by
  have e1 : urx bs p s t = Uh.zero := by simp [urx, h, hk]
  have e2 : uro bs p s t = [] := by simp [uro, h, hk]
  have e3 : urb bs p s t = [] := by simp [urb, h, hk]
  unfold URead UROut
  rw [e1, e2, e3, h]
  exact ⟨none, 0, none, 0, rfl, ⟨rfl, .inl ⟨rfl, rfl⟩⟩, ⟨rfl, .inl ⟨rfl, rfl⟩⟩, (fun _ h => by cases h), hb⟩
theorem uread_yes {bs : List UInt8} {p : Int} {s t : Ad} {x : Uh} {os ds : List UInt8} {n m : Nat} (h : uhC bs p s t = 0) (hx : uhX bs (kindU p s.k) s.k = x) (ho : uhO bs (kindU p s.k) = os) (hd : uhB bs (kindU p s.k) = ds) (hn : os.length = n) (hm : ds.length = m) {w w' : World} {A D : Option Addr} {c d : Nat}
    (oA : w'.ownsRow w.heap.size 5 1 (.slice A n c) n (cellsOf os)) (oD : w'.ownsRow w.heap.size 5 1 (.slice D m d) m (cellsOf ds))
    (h1 : ∀ k, (Value.slice A n c).ownBlock = some k → (Value.slice D m d).ownBlock ≠ some k)
    (hb : Below w.heap.size w w') : URead bs p s t w (.returned (.tuple #[.agg #[.int .i64 x.kind, .int .i64 x.sport, .int .i64 x.dport, .int .i64 x.seq, .int .i64 x.ack, .int .i64 x.bits, .int .i64 x.window, .int .i64 x.urgent, .int .i64 x.ty, .int .i64 x.code, .int .i64 x.rest, .bool x.nosum, .slice A n c, .slice D m d], .int .i64 0])) w' := by
  have e1 : urx bs p s t = x := by simp [urx, h, hx]
  have e2 : uro bs p s t = os := by simp [uro, h, ho]
  have e3 : urb bs p s t = ds := by simp [urb, h, hd]
  unfold URead UROut
  rw [e1, e2, e3, h, hn, hm]
  exact ⟨A, c, D, d, rfl, oA, oD, h1, hb⟩
theorem uhC_long {bs : List UInt8} {p : Int} {s t : Ad} (h : 1500 < bs.length) : uhC bs p s t = 1 := by simp [uhC, h]
theorem uhC_addr {bs : List UInt8} {p : Int} {s t : Ad} (h : ¬ 1500 < bs.length) (h2 : (pairA s t && upTo p 255) = false) : uhC bs p s t = 2 := by rw [uhC, if_neg h, if_pos h2]
theorem uhC_far {bs : List UInt8} {p : Int} {s t : Ad} (h : ¬ 1500 < bs.length) (h2 : (pairA s t && upTo p 255) = true) : uhC bs p s t =
    if (kindU p s.k = 1 ∧ bs.length < 20) ∨ (¬ kindU p s.k = 0 ∧ bs.length < 8) then 3
    else if kindU p s.k = 1 ∧ (tHead bs < 20 ∨ bs.length < tHead bs) then 4
    else if kindU p s.k = 2 ∧ ¬ num bs 4 2 = bs.length then 5
    else if ¬ uhS bs (kindU p s.k) = (uhX bs (kindU p s.k) s.k).sum (uhO bs (kindU p s.k)) (uhB bs (kindU p s.k)) s t then 6 else 0 := by
  rw [uhC, if_neg h, if_neg (by rw [h2]; simp)]
theorem tHead_le (bs : List UInt8) : tHead bs ≤ 60 := by
  have := num_lt2 bs 12
  unfold tHead
  omega
theorem clone_nil (w : World) : Calls Try.prog 83 #[.slice none 0 0] w fun e w' => e = .returned (.slice none 0 0) ∧ w = w' := by
  have hnil : ∀ v : World, (binOp .eql 34 (.slice none 0 0) (.slice none 0 0)).run Try.prog v = .ok (.bool true) v := fun v => by kernel_rfl
  go_enter Try.func83, Try.ntmps83
  go_wp2
  go_ret
  exact ⟨rfl, rfl⟩
set_option maxHeartbeats 1000000 in
theorem takeP0 (w : World) (g : Nat) (h : Rp w g none 0 0 [] 0) :
    Calls Try.prog 91 #[.pointer (some ⟨g, 0, none⟩), .int .i64 0] w fun e w' => ∃ D d, e = .returned (.slice D 0 d) ∧ w'.ownsRow w.heap.size 5 1 (.slice D 0 d) 0 (cellsOf []) ∧ Rp w' g none 0 0 [] 0 ∧ w.grownBy w' (some g) := by
  obtain ⟨⟨c0, c1⟩, f0, f1⟩ := K.row2 h.blk
  have H := Lib.hid h
  have hsl : ∀ w, (Instr.sliceAt 34 (.slice none 0 0) (some (.int .i64 0)) (some (.int .i64 0)) none).run Try.prog w = .ok (.slice none 0 0) w := fun w => by have := cut_mid none 0 0 0 0 0 rfl (by omega) w; simpa using this
  have hw0 : IntKind.i64.wrap (0 : Int) = 0 := by rw [IntKind.wrap_i64]; rfl
  have hgw := h.lt
  clear h
  go_enter Try.func91, Try.ntmps91
  go_wp2
  go_still_tail 15, (by kernel_rfl)
  change wpList _ _ _ _ _ w.drew
  have HW : Hid (Rp w.drew g none 0 0 [] 0) := Lib.hid (H.out.drewN 1)
  have G0 : Hid (w.grownBy w.drew (some g)) := Lib.hid ⟨rfl, rfl, rfl, Nat.le_refl _, fun _ _ _ => rfl⟩
  clear c0 c1 f0 f1 hsl
  generalize w.drew = w2 at *
  go_wp2_with fail
  refine (clone_nil w2).mono ?_
  rintro e w3 ⟨rfl, rfl⟩
  obtain ⟨⟨c0, c1⟩, f0, f1⟩ := K.row2 HW.out.blk
  go_wp2
  go_ret
  exact ⟨none, 0, rfl, ⟨rfl, .inl ⟨rfl, rfl⟩⟩, (HW.out.setAt0 0).1, grownBy_trans G0.out (grownBy_set w2 g 1 _)⟩
def TakeOut (x : Uh) (os ds : List UInt8) (P Q : Nat) (sm : Nat) (g : Nat) (w : World) (e : Ending) (w' : World) : Prop :=
  ∃ A c D d, e = .returned (.tuple #[.agg #[.int .i64 x.kind, .int .i64 x.sport, .int .i64 x.dport, .int .i64 x.seq, .int .i64 x.ack, .int .i64 x.bits, .int .i64 x.window, .int .i64 x.urgent, .int .i64 x.ty, .int .i64 x.code, .int .i64 x.rest, .bool x.nosum, .slice A P c, .slice D Q d], .int .i64 (sm : Int), .int .i64 0]) ∧ w'.ownsRow w.heap.size 5 1 (.slice A P c) P (cellsOf os) ∧ w'.ownsRow w.heap.size 5 1 (.slice D Q d) Q (cellsOf ds) ∧ (∀ k, (Value.slice A P c).ownBlock = some k → (Value.slice D Q d).ownBlock ≠ some k) ∧ w.grownBy w' (some g)
def TakeNo (k : Int) (g : Nat) (w : World) (e : Ending) (w' : World) : Prop := e = .returned (.tuple #[.agg #[.int .i64 Uh.zero.kind, .int .i64 Uh.zero.sport, .int .i64 Uh.zero.dport, .int .i64 Uh.zero.seq, .int .i64 Uh.zero.ack, .int .i64 Uh.zero.bits, .int .i64 Uh.zero.window, .int .i64 Uh.zero.urgent, .int .i64 Uh.zero.ty, .int .i64 Uh.zero.code, .int .i64 Uh.zero.rest, .bool Uh.zero.nosum, .slice none 0 0, .slice none 0 0], .int .i64 0, .int .i64 k]) ∧ w.grownBy w' (some g)
set_option maxHeartbeats 4000000 in
theorem upperOf_1no (w : World) (g : Nat) (a : Addr) (n c : Nat) (bs : List UInt8) (V : Value) (sport dport seq ack mx hd : Nat) (h : Rp w g (some a) n c bs 0) (hn : 20 ≤ n) (e0 : num bs 0 2 = sport) (e1 : num bs 2 2 = dport) (e2 : num bs 4 4 = seq) (e3 : num bs 8 4 = ack) (e4 : num bs 12 2 = mx) (ed : 4 * (mx / 4096) = hd) (hh : hd < 20 ∨ n < hd) : Calls Try.prog 49 #[.iface 110 V, .pointer (some ⟨g, 0, none⟩)] w (TakeNo 4 g w) := by
  have HC := Lib.hid (fun (v : World) (r : Rp v g (some a) n c bs 0) => tcpOf_no v g a n c bs sport dport seq ack mx hd r hn e0 e1 e2 e3 e4 ed hh)
  clear hn e0 e1 e2 e3 e4 ed hh
  have hg := h.lt
  have HR := Lib.hid (h.below (Joins.below_alloc1 w (.cells #[.int .i64 0, .int .i64 0, .int .i64 0, .int .i64 0, .int .i64 0, .int .i64 0, .int .i64 0, .int .i64 0, .int .i64 0, .int .i64 0, .int .i64 0, .bool false, .slice none 0 0, .slice none 0 0] 36)))
  have z0 := Lib.hid (K.new w (.cells #[.int .i64 0, .int .i64 0, .int .i64 0, .int .i64 0, .int .i64 0, .int .i64 0, .int .i64 0, .int .i64 0, .int .i64 0, .int .i64 0, .int .i64 0, .bool false, .slice none 0 0, .slice none 0 0] 36))
  have G0 := Lib.hid (show w.grownBy (w.alloc (.cells #[.int .i64 0, .int .i64 0, .int .i64 0, .int .i64 0, .int .i64 0, .int .i64 0, .int .i64 0, .int .i64 0, .int .i64 0, .int .i64 0, .int .i64 0, .bool false, .slice none 0 0, .slice none 0 0] 36)) (some g) from only_new (K.refl w _) _)
  clear h
  have ta_tcp := ta_tcp_tcp V
  go_enter Try.func49, Try.ntmps49
  go_wp2_with fail
  refine Calls.mono (HC.out _ HR.out) ?_
  rintro e v1 ⟨rfl, gg⟩
  have z1 := Lib.hid (K.kept gg z0.out (fun u hu => by cases hu; omega))
  have G1 := Lib.hid (grownBy_trans G0.out gg)
  clear gg z0 G0 HR HC
  go_wp2_with (with_reducible refine storeU rfl _ _ rfl w.heap.size rfl rfl z1.out ?_)
  (try simp only [Exit.inBlock, Exit.then])
  refine bodyPost_ret (v := .tuple #[.agg #[.int .i64 0, .int .i64 0, .int .i64 0, .int .i64 0, .int .i64 0, .int .i64 0, .int .i64 0, .int .i64 0, .int .i64 0, .int .i64 0, .int .i64 0, .bool false, .slice none 0 0, .slice none 0 0], .int .i64 0, .int .i64 4]) ?_ rfl ⟨rfl, grown_other G1.out (K.setRow_grown _ _ _) (fun u hu => by cases hu; exact Nat.le_refl _)⟩
  exact K.resCell3 Try.results49 _ _ _ w.heap.size _ rfl (run_loadVar_row _ _ 36 36 _ (0, 0) _ (setRow_heap _ _ _ _ _ _ z1.out) Try.underlying36 rfl info_up)
set_option maxHeartbeats 4000000 in
theorem upperOf_2no (w : World) (g : Nat) (a : Addr) (n c : Nat) (bs : List UInt8) (V : Value) (sport dport sz : Nat) (h : Rp w g (some a) n c bs 0) (hn : 8 ≤ n) (e0 : num bs 0 2 = sport) (e1 : num bs 2 2 = dport) (e2 : num bs 4 2 = sz) (hs : ¬ sz = n) : Calls Try.prog 49 #[.iface 111 V, .pointer (some ⟨g, 0, none⟩)] w (TakeNo 5 g w) := by
  have HC := Lib.hid (fun (v : World) (r : Rp v g (some a) n c bs 0) => udpOf_no v g a n c bs sport dport sz r hn e0 e1 e2 hs)
  clear hn e0 e1 e2 hs
  have hg := h.lt
  have HR := Lib.hid (h.below (Joins.below_alloc1 w (.cells #[.int .i64 0, .int .i64 0, .int .i64 0, .int .i64 0, .int .i64 0, .int .i64 0, .int .i64 0, .int .i64 0, .int .i64 0, .int .i64 0, .int .i64 0, .bool false, .slice none 0 0, .slice none 0 0] 36)))
  have z0 := Lib.hid (K.new w (.cells #[.int .i64 0, .int .i64 0, .int .i64 0, .int .i64 0, .int .i64 0, .int .i64 0, .int .i64 0, .int .i64 0, .int .i64 0, .int .i64 0, .int .i64 0, .bool false, .slice none 0 0, .slice none 0 0] 36))
  have G0 := Lib.hid (show w.grownBy (w.alloc (.cells #[.int .i64 0, .int .i64 0, .int .i64 0, .int .i64 0, .int .i64 0, .int .i64 0, .int .i64 0, .int .i64 0, .int .i64 0, .int .i64 0, .int .i64 0, .bool false, .slice none 0 0, .slice none 0 0] 36)) (some g) from only_new (K.refl w _) _)
  clear h
  have ta_tcp := ta_udp_tcp V
  have ta_udp := ta_udp_udp V
  go_enter Try.func49, Try.ntmps49
  go_wp2_with fail
  refine Calls.mono (HC.out _ HR.out) ?_
  rintro e v1 ⟨rfl, gg⟩
  have z1 := Lib.hid (K.kept gg z0.out (fun u hu => by cases hu; omega))
  have G1 := Lib.hid (grownBy_trans G0.out gg)
  clear gg z0 G0 HR HC
  go_wp2_with (with_reducible refine storeU rfl _ _ rfl w.heap.size rfl rfl z1.out ?_)
  (try simp only [Exit.inBlock, Exit.then])
  refine bodyPost_ret (v := .tuple #[.agg #[.int .i64 0, .int .i64 0, .int .i64 0, .int .i64 0, .int .i64 0, .int .i64 0, .int .i64 0, .int .i64 0, .int .i64 0, .int .i64 0, .int .i64 0, .bool false, .slice none 0 0, .slice none 0 0], .int .i64 0, .int .i64 5]) ?_ rfl ⟨rfl, grown_other G1.out (K.setRow_grown _ _ _) (fun u hu => by cases hu; exact Nat.le_refl _)⟩
  exact K.resCell3 Try.results49 _ _ _ w.heap.size _ rfl (run_loadVar_row _ _ 36 36 _ (0, 0) _ (setRow_heap _ _ _ _ _ _ z1.out) Try.underlying36 rfl info_up)
set_option maxHeartbeats 4000000 in
theorem upperOf_1 (w : World) (g : Nat) (a : Addr) (n c : Nat) (bs : List UInt8) (V : Value) (l p : Nat) (sport dport seq ack mx hd window sm urgent : Nat) (h : Rp w g (some a) n c bs 0) (hn : 20 ≤ n) (e0 : num bs 0 2 = sport) (e1 : num bs 2 2 = dport) (e2 : num bs 4 4 = seq) (e3 : num bs 8 4 = ack) (e4 : num bs 12 2 = mx) (ed : 4 * (mx / 4096) = hd) (hp : 20 + p = hd) (hl : hd + l = n) (e5 : num bs 14 2 = window) (e6 : num bs 16 2 = sm) (e7 : num bs 18 2 = urgent) : Calls Try.prog 49 #[.iface 110 V, .pointer (some ⟨g, 0, none⟩)] w (TakeOut ⟨1, (sport : Int), (dport : Int), (seq : Int), (ack : Int), (mx : Int) % 4096, (window : Int), (urgent : Int), 0, 0, 0, false⟩ ((bs.drop 20).take p) (bs.drop hd) p l sm g w) := by
  have HC := Lib.hid (fun (v : World) (r : Rp v g (some a) n c bs 0) => tcpOf_yes v g a n c bs l p sport dport seq ack mx hd window sm urgent r hn e0 e1 e2 e3 e4 ed hp hl e5 e6 e7)
  clear hn e0 e1 e2 e3 e4 ed hp hl e5 e6 e7
  have hg := h.lt
  have HR := Lib.hid (h.below (Joins.below_alloc1 w (.cells #[.int .i64 0, .int .i64 0, .int .i64 0, .int .i64 0, .int .i64 0, .int .i64 0, .int .i64 0, .int .i64 0, .int .i64 0, .int .i64 0, .int .i64 0, .bool false, .slice none 0 0, .slice none 0 0] 36)))
  have z0 := Lib.hid (K.new w (.cells #[.int .i64 0, .int .i64 0, .int .i64 0, .int .i64 0, .int .i64 0, .int .i64 0, .int .i64 0, .int .i64 0, .int .i64 0, .int .i64 0, .int .i64 0, .bool false, .slice none 0 0, .slice none 0 0] 36))
  have G0 := Lib.hid (show w.grownBy (w.alloc (.cells #[.int .i64 0, .int .i64 0, .int .i64 0, .int .i64 0, .int .i64 0, .int .i64 0, .int .i64 0, .int .i64 0, .int .i64 0, .int .i64 0, .int .i64 0, .bool false, .slice none 0 0, .slice none 0 0] 36)) (some g) from only_new (K.refl w _) _)
  clear h
  have ta_tcp := ta_tcp_tcp V
  go_enter Try.func49, Try.ntmps49
  go_wp2_with fail
  refine Calls.mono (HC.out _ HR.out) ?_
  rintro e v1 ⟨O, o, D, d, rfl, oo, od, ap, gg⟩
  have z1 := Lib.hid (K.kept gg z0.out (fun u hu => by cases hu; omega))
  have G1 := Lib.hid (grownBy_trans G0.out gg)
  have O1 := Lib.hid oo
  have D1 := Lib.hid od
  have AP := Lib.hid ap
  clear gg z0 G0 HR HC oo od ap
  have hsz : w.heap.size < (w.alloc (.cells #[.int .i64 0, .int .i64 0, .int .i64 0, .int .i64 0, .int .i64 0, .int .i64 0, .int .i64 0, .int .i64 0, .int .i64 0, .int .i64 0, .int .i64 0, .bool false, .slice none 0 0, .slice none 0 0] 36)).heap.size := by simp
  go_wp2_with (with_reducible refine storeU rfl _ _ rfl w.heap.size rfl rfl z1.out ?_)
  (try simp only [Exit.inBlock, Exit.then])
  refine bodyPost_ret (v := .tuple #[.agg #[.int .i64 1, .int .i64 (sport : Int), .int .i64 (dport : Int), .int .i64 (seq : Int), .int .i64 (ack : Int), .int .i64 ((mx : Int) % 4096), .int .i64 (window : Int), .int .i64 (urgent : Int), .int .i64 0, .int .i64 0, .int .i64 0, .bool false, .slice O p o, .slice D l d], .int .i64 (sm : Int), .int .i64 0]) ?_ rfl ⟨O, o, D, d, rfl, own_base (K.setRow_own _ O1.out hsz) (by omega), own_base (K.setRow_own _ D1.out hsz) (by omega), AP.out, grown_other G1.out (K.setRow_grown _ _ _) (fun u hu => by cases hu; exact Nat.le_refl _)⟩
  exact K.resCell3 Try.results49 _ _ _ w.heap.size _ rfl (run_loadVar_row _ _ 36 36 _ (0, 0) _ (setRow_heap _ _ _ _ _ _ z1.out) Try.underlying36 rfl info_up)
set_option maxHeartbeats 4000000 in
theorem upperOf_2 (w : World) (g : Nat) (a : Addr) (n c : Nat) (bs : List UInt8) (V : Value) (l : Nat) (sport dport sm : Nat) (h : Rp w g (some a) n c bs 0) (hl : 8 + l = n) (e0 : num bs 0 2 = sport) (e1 : num bs 2 2 = dport) (e2 : num bs 4 2 = n) (e3 : num bs 6 2 = sm) : Calls Try.prog 49 #[.iface 111 V, .pointer (some ⟨g, 0, none⟩)] w (TakeOut ⟨2, (sport : Int), (dport : Int), 0, 0, 0, 0, 0, 0, 0, 0, false⟩ [] (bs.drop 8) 0 l sm g w) := by
  have HC := Lib.hid (fun (v : World) (r : Rp v g (some a) n c bs 0) => udpOf_yes v g a n c bs l sport dport sm r hl e0 e1 e2 e3)
  clear hl e0 e1 e2 e3
  have hg := h.lt
  have HR := Lib.hid (h.below (Joins.below_alloc1 w (.cells #[.int .i64 0, .int .i64 0, .int .i64 0, .int .i64 0, .int .i64 0, .int .i64 0, .int .i64 0, .int .i64 0, .int .i64 0, .int .i64 0, .int .i64 0, .bool false, .slice none 0 0, .slice none 0 0] 36)))
  have z0 := Lib.hid (K.new w (.cells #[.int .i64 0, .int .i64 0, .int .i64 0, .int .i64 0, .int .i64 0, .int .i64 0, .int .i64 0, .int .i64 0, .int .i64 0, .int .i64 0, .int .i64 0, .bool false, .slice none 0 0, .slice none 0 0] 36))
  have G0 := Lib.hid (show w.grownBy (w.alloc (.cells #[.int .i64 0, .int .i64 0, .int .i64 0, .int .i64 0, .int .i64 0, .int .i64 0, .int .i64 0, .int .i64 0, .int .i64 0, .int .i64 0, .int .i64 0, .bool false, .slice none 0 0, .slice none 0 0] 36)) (some g) from only_new (K.refl w _) _)
  clear h
  have ta_tcp := ta_udp_tcp V
  have ta_udp := ta_udp_udp V
  go_enter Try.func49, Try.ntmps49
  go_wp2_with fail
  refine Calls.mono (HC.out _ HR.out) ?_
  rintro e v1 ⟨D, d, rfl, od, gg⟩
  have z1 := Lib.hid (K.kept gg z0.out (fun u hu => by cases hu; omega))
  have G1 := Lib.hid (grownBy_trans G0.out gg)
  have D1 := Lib.hid od
  clear gg z0 G0 HR HC od
  have hsz : w.heap.size < (w.alloc (.cells #[.int .i64 0, .int .i64 0, .int .i64 0, .int .i64 0, .int .i64 0, .int .i64 0, .int .i64 0, .int .i64 0, .int .i64 0, .int .i64 0, .int .i64 0, .bool false, .slice none 0 0, .slice none 0 0] 36)).heap.size := by simp
  go_wp2_with (with_reducible refine storeU rfl _ _ rfl w.heap.size rfl rfl z1.out ?_)
  (try simp only [Exit.inBlock, Exit.then])
  refine bodyPost_ret (v := .tuple #[.agg #[.int .i64 2, .int .i64 (sport : Int), .int .i64 (dport : Int), .int .i64 0, .int .i64 0, .int .i64 0, .int .i64 0, .int .i64 0, .int .i64 0, .int .i64 0, .int .i64 0, .bool false, .slice none 0 0, .slice D l d], .int .i64 (sm : Int), .int .i64 0]) ?_ rfl ⟨none, 0, D, d, rfl, ⟨rfl, .inl ⟨rfl, rfl⟩⟩, own_base (K.setRow_own _ D1.out hsz) (by omega), (fun _ h => by cases h), grown_other G1.out (K.setRow_grown _ _ _) (fun u hu => by cases hu; exact Nat.le_refl _)⟩
  exact K.resCell3 Try.results49 _ _ _ w.heap.size _ rfl (run_loadVar_row _ _ 36 36 _ (0, 0) _ (setRow_heap _ _ _ _ _ _ z1.out) Try.underlying36 rfl info_up)
set_option maxHeartbeats 4000000 in
theorem upperOf_3 (w : World) (g : Nat) (a : Addr) (n c : Nat) (bs : List UInt8) (V : Value) (l : Nat) (ty code sm rest : Nat) (h : Rp w g (some a) n c bs 0) (hl : 8 + l = n) (e0 : num bs 0 1 = ty) (e1 : num bs 1 1 = code) (e2 : num bs 2 2 = sm) (e3 : num bs 4 4 = rest) : Calls Try.prog 49 #[.iface 112 V, .pointer (some ⟨g, 0, none⟩)] w (TakeOut ⟨3, 0, 0, 0, 0, 0, 0, 0, (ty : Int), (code : Int), (rest : Int), false⟩ [] (bs.drop 8) 0 l sm g w) := by
  have HC := Lib.hid (fun (v : World) (r : Rp v g (some a) n c bs 0) => icmpOfC v g a n c bs l ty code sm rest r hl e0 e1 e2 e3)
  clear hl e0 e1 e2 e3
  have hg := h.lt
  have HR := Lib.hid (h.below (Joins.below_alloc1 w (.cells #[.int .i64 0, .int .i64 0, .int .i64 0, .int .i64 0, .int .i64 0, .int .i64 0, .int .i64 0, .int .i64 0, .int .i64 0, .int .i64 0, .int .i64 0, .bool false, .slice none 0 0, .slice none 0 0] 36)))
  have z0 := Lib.hid (K.new w (.cells #[.int .i64 0, .int .i64 0, .int .i64 0, .int .i64 0, .int .i64 0, .int .i64 0, .int .i64 0, .int .i64 0, .int .i64 0, .int .i64 0, .int .i64 0, .bool false, .slice none 0 0, .slice none 0 0] 36))
  have G0 := Lib.hid (show w.grownBy (w.alloc (.cells #[.int .i64 0, .int .i64 0, .int .i64 0, .int .i64 0, .int .i64 0, .int .i64 0, .int .i64 0, .int .i64 0, .int .i64 0, .int .i64 0, .int .i64 0, .bool false, .slice none 0 0, .slice none 0 0] 36)) (some g) from only_new (K.refl w _) _)
  clear h
  have ta_tcp := ta_icmp_tcp V
  have ta_udp := ta_icmp_udp V
  have ta_icmp := ta_icmp_icmp V
  go_enter Try.func49, Try.ntmps49
  go_wp2_with fail
  refine Calls.mono (HC.out _ HR.out) ?_
  rintro e v1 ⟨D, d, rfl, od, gg⟩
  have hlz := Lib.hid (K.lt (K.kept gg z0.out (fun u hu => by cases hu; omega)))
  have z1 := Lib.hid (K.old (K.kept gg z0.out (fun u hu => by cases hu; omega)) (.cells #[.int .i64 3, .int .i64 0, .int .i64 0, .int .i64 0, .int .i64 0, .int .i64 0, .int .i64 0, .int .i64 0, .int .i64 (ty : Int), .int .i64 (code : Int), .int .i64 (rest : Int), .bool false, .slice none 0 0, .slice D l d] 36))
  have q1 := Lib.hid (K.new v1 (.cells #[.int .i64 3, .int .i64 0, .int .i64 0, .int .i64 0, .int .i64 0, .int .i64 0, .int .i64 0, .int .i64 0, .int .i64 (ty : Int), .int .i64 (code : Int), .int .i64 (rest : Int), .bool false, .slice none 0 0, .slice D l d] 36))
  have G1 := Lib.hid (only_new (grownBy_trans G0.out gg) (.cells #[.int .i64 3, .int .i64 0, .int .i64 0, .int .i64 0, .int .i64 0, .int .i64 0, .int .i64 0, .int .i64 0, .int .i64 (ty : Int), .int .i64 (code : Int), .int .i64 (rest : Int), .bool false, .slice none 0 0, .slice D l d] 36))
  have D1 := Lib.hid (World.ownsRow.alloc od (.cells #[.int .i64 3, .int .i64 0, .int .i64 0, .int .i64 0, .int .i64 0, .int .i64 0, .int .i64 0, .int .i64 0, .int .i64 (ty : Int), .int .i64 (code : Int), .int .i64 (rest : Int), .bool false, .slice none 0 0, .slice D l d] 36))
  clear gg z0 G0 HR HC od
  have hsz : w.heap.size < (w.alloc (.cells #[.int .i64 0, .int .i64 0, .int .i64 0, .int .i64 0, .int .i64 0, .int .i64 0, .int .i64 0, .int .i64 0, .int .i64 0, .int .i64 0, .int .i64 0, .bool false, .slice none 0 0, .slice none 0 0] 36)).heap.size := by simp
  go_wp2_with (first | (with_reducible refine storeNewU rfl _ _ rfl rfl rfl ?_) | (with_reducible refine loadU rfl _ rfl v1.heap.size rfl q1.out ?_) | (with_reducible refine storeU rfl _ _ rfl w.heap.size rfl rfl z1.out ?_))
  (try simp only [Exit.inBlock, Exit.then])
  refine bodyPost_ret (v := .tuple #[.agg #[.int .i64 3, .int .i64 0, .int .i64 0, .int .i64 0, .int .i64 0, .int .i64 0, .int .i64 0, .int .i64 0, .int .i64 (ty : Int), .int .i64 (code : Int), .int .i64 (rest : Int), .bool false, .slice none 0 0, .slice D l d], .int .i64 (sm : Int), .int .i64 0]) ?_ rfl ⟨none, 0, D, d, rfl, ⟨rfl, .inl ⟨rfl, rfl⟩⟩, own_base (K.setRow_own _ D1.out hsz) (by omega), (fun _ h => by cases h), grown_other G1.out (K.setRow_grown _ _ _) (fun u hu => by cases hu; exact Nat.le_refl _)⟩
  exact K.resCell3 Try.results49 _ _ _ w.heap.size _ rfl (run_loadVar_row _ _ 36 36 _ (0, 0) _ (setRow_heap _ _ _ _ _ _ z1.out) Try.underlying36 rfl info_up)
set_option maxHeartbeats 4000000 in
theorem upperOf_0 (w : World) (g : Nat) (a : Addr) (n c : Nat) (bs : List UInt8) (V : Value) (h : Rp w g (some a) n c bs 0) : Calls Try.prog 49 #[.iface 109 V, .pointer (some ⟨g, 0, none⟩)] w (TakeOut Uh.zero [] bs 0 n 0 g w) := by
  have HD := Lib.hid (show (bs.drop 0).take n = bs by rw [List.drop_zero, ← h.len, List.take_length])
  have hg := h.lt
  have HR := Lib.hid (h.below (Joins.below_alloc1 w (.cells #[.int .i64 0, .int .i64 0, .int .i64 0, .int .i64 0, .int .i64 0, .int .i64 0, .int .i64 0, .int .i64 0, .int .i64 0, .int .i64 0, .int .i64 0, .bool false, .slice none 0 0, .slice none 0 0] 36)))
  have z0 := Lib.hid (K.new w (.cells #[.int .i64 0, .int .i64 0, .int .i64 0, .int .i64 0, .int .i64 0, .int .i64 0, .int .i64 0, .int .i64 0, .int .i64 0, .int .i64 0, .int .i64 0, .bool false, .slice none 0 0, .slice none 0 0] 36))
  have G0 := Lib.hid (show w.grownBy (w.alloc (.cells #[.int .i64 0, .int .i64 0, .int .i64 0, .int .i64 0, .int .i64 0, .int .i64 0, .int .i64 0, .int .i64 0, .int .i64 0, .int .i64 0, .int .i64 0, .bool false, .slice none 0 0, .slice none 0 0] 36)) (some g) from only_new (K.refl w _) _)
  clear h
  have ta_tcp := ta_other_tcp V
  have ta_udp := ta_other_udp V
  have ta_icmp := ta_other_icmp V
  go_enter Try.func49, Try.ntmps49
  go_wp2_with fail
  refine wp_region_grow (w := (w.alloc (.cells #[.int .i64 0, .int .i64 0, .int .i64 0, .int .i64 0, .int .i64 0, .int .i64 0, .int .i64 0, .int .i64 0, .int .i64 0, .int .i64 0, .int .i64 0, .bool false, .slice none 0 0, .slice none 0 0] 36))) (some g) (by kernel_rfl) 8 45 [(0, 36), (1, 37), (2, 38), (3, 39), (4, 40), (5, 41), (6, 42), (7, 43)] _ ([.val (.pointer (some ⟨g, 0, none⟩)), .val (.pointer (some ⟨g, 0, none⟩)), .val (.pointer (some ⟨g, 0, none⟩)), .val (.pointer (some ⟨g, 0, none⟩)), .val (.pointer (some ⟨g, 0, none⟩)), .val (.pointer (some ⟨g, 0, none⟩)), .val (.int .i64 (n : Int)), .any]) (by kernel_rfl) (by kernel_rfl) rfl 7 43 (by omega) (by decide) rfl (fun b' v => w.grownBy v (some g) ∧ v.heap[w.heap.size]? = some (.cells #[.int .i64 0, .int .i64 0, .int .i64 0, .int .i64 0, .int .i64 0, .int .i64 0, .int .i64 0, .int .i64 0, .int .i64 0, .int .i64 0, .int .i64 0, .bool false, .slice none 0 0, .slice none 0 0] 36 (0, 0)) ∧ (w.alloc (.cells #[.int .i64 0, .int .i64 0, .int .i64 0, .int .i64 0, .int .i64 0, .int .i64 0, .int .i64 0, .int .i64 0, .int .i64 0, .int .i64 0, .int .i64 0, .bool false, .slice none 0 0, .slice none 0 0] 36)).heap.size ≤ v.heap.size ∧ (b' = false → Rp v g (some a) n c bs 0)) (fun b' v v' hb h => ⟨grownBy_trans h.1 (below_grown hb _), K.below hb h.2.1, Nat.le_trans h.2.2.1 hb.size, fun e => (h.2.2.2 e).below hb⟩) ⟨⟨G0.out.os, G0.out.tape, G0.out.output, G0.out.size, G0.out.block⟩, z0.out, Nat.le_refl _, fun _ => ⟨HR.out.blk, HR.out.rb, HR.out.len, HR.out.small, HR.out.cap⟩⟩ (OwnB (w.alloc (.cells #[.int .i64 0, .int .i64 0, .int .i64 0, .int .i64 0, .int .i64 0, .int .i64 0, .int .i64 0, .int .i64 0, .int .i64 0, .int .i64 0, .int .i64 0, .bool false, .slice none 0 0, .slice none 0 0] 36)).heap.size n bs) (fun v v' u hb h => OwnB.on v v' u hb h) ?_ ?_ ?_
  · intro j o hj hjp ho b' a' v K' hbt hx hnd hJJ hK
    match j, hj, hjp, ho with
    | 0, _, _, ho =>
      obtain rfl := Option.some.inj ho
      have h0 : a'.eval (.tmp 1) = .pointer (some ⟨g, 0, none⟩) := (hx 1 (by decide)).trans rfl
      exact u_move _ _ rfl h0 (hK _ _ rfl (Below.refl _ _))
    | 1, _, _, ho =>
      obtain rfl := Option.some.inj ho
      have h0 : a'.eval (.tmp 36) = .pointer (some ⟨g, 0, none⟩) := (grow_of hnd 0 36 (by kernel_rfl) (by decide) :)
      exact t_nil _ _ rfl h0 (hK _ _ rfl (Below.refl _ _))
    | 2, _, _, ho =>
      obtain rfl := Option.some.inj ho
      have h0 : a'.eval (.tmp 37) = .pointer (some ⟨g, 0, none⟩) := (grow_of hnd 1 37 (by kernel_rfl) (by decide) :)
      exact t_fldR _ _ rfl h0 (hK _ _ rfl (Below.refl _ _))
    | 3, _, _, ho =>
      obtain rfl := Option.some.inj ho
      have h0 : a'.eval (.tmp 1) = .pointer (some ⟨g, 0, none⟩) := (hx 1 (by decide)).trans rfl
      exact u_move _ _ rfl h0 (hK _ _ rfl (Below.refl _ _))
    | 4, _, _, ho =>
      obtain rfl := Option.some.inj ho
      have h0 : a'.eval (.tmp 39) = .pointer (some ⟨g, 0, none⟩) := (grow_of hnd 3 39 (by kernel_rfl) (by decide) :)
      exact t_nil _ _ rfl h0 (hK _ _ rfl (Below.refl _ _))
    | 5, _, _, ho =>
      obtain rfl := Option.some.inj ho
      have h0 : a'.eval (.tmp 40) = .pointer (some ⟨g, 0, none⟩) := (grow_of hnd 4 40 (by kernel_rfl) (by decide) :)
      exact t_fldR _ _ rfl h0 (hK _ _ rfl (Below.refl _ _))
    | 6, _, _, ho =>
      obtain rfl := Option.some.inj ho
      have h0 : a'.eval (.tmp 41) = .pointer (some ⟨g, 0, none⟩) := (grow_of hnd 5 41 (by kernel_rfl) (by decide) :)
      cases b' with
      | false =>
        refine t_left _ _ _ rfl h0 (Calls.mono (leftP v g (some a) n c bs 0 n (hJJ.2.2.2 rfl) (by omega)) ?_)
        rintro e' v' ⟨rfl, b6⟩
        exact ⟨_, rfl, hK _ _ rfl b6⟩
      | true =>
        exact absurd (hbt (by kernel_rfl)) (by simp)
    | 7, _, hjp, _ => exact absurd rfl hjp
    | j + 8, hj, _, _ => omega
  · intro o ho a' v K' hx hnd hJJ hK
    obtain rfl := Option.some.inj ho
    have h0 : a'.eval (.tmp 38) = .pointer (some ⟨g, 0, none⟩) := (grow_of hnd 2 38 (by kernel_rfl) (by decide) :)
    have h1 : a'.eval (.tmp 42) = .int .i64 (n : Int) := (grow_of hnd 6 42 (by kernel_rfl) (by decide) :)
    refine t_take _ _ _ _ _ rfl h0 h1 (Calls.mono (takeP v g a n c bs 0 n (hJJ.2.2.2 rfl) (by omega)) ?_)
    rintro e' v' ⟨E', k', rfl, o8, r8, g8⟩
    rw [HD.out] at o8
    exact ⟨_, rfl, hK _ _ ⟨E', k', rfl, own_base o8 hJJ.2.2.1⟩ g8 ⟨grownBy_trans hJJ.1 g8, K.kept g8 hJJ.2.1 (fun u hu => by cases hu; omega), Nat.le_trans hJJ.2.2.1 g8.size, fun e => by cases e⟩⟩
  · intro f v hf OG hJJ
    have e0 : f 0 = (.pointer (some ⟨g, 0, none⟩)) := hf (0, 36) (by decide) (by decide)
    have e1 : f 1 = (.pointer (some ⟨g, 0, none⟩)) := hf (1, 37) (by decide) (by decide)
    have e2 : f 2 = (.pointer (some ⟨g, 0, none⟩)) := hf (2, 38) (by decide) (by decide)
    have e3 : f 3 = (.pointer (some ⟨g, 0, none⟩)) := hf (3, 39) (by decide) (by decide)
    have e4 : f 4 = (.pointer (some ⟨g, 0, none⟩)) := hf (4, 40) (by decide) (by decide)
    have e5 : f 5 = (.pointer (some ⟨g, 0, none⟩)) := hf (5, 41) (by decide) (by decide)
    have e6 : f 6 = (.int .i64 (n : Int)) := hf (6, 42) (by decide) (by decide)
    simp only [List.foldl_cons, List.foldl_nil, List.drop_succ_cons, List.drop_zero, e0, e1, e2, e3, e4, e5, e6]
    clear e0 e1 e2 e3 e4 e5 e6 hf
    go_simp
    obtain ⟨D, d, e9, oD⟩ := OG
    rw [e9]
    clear e9
    obtain ⟨j1, j2, j3, _⟩ := hJJ
    have z1 := Lib.hid j2
    have G1 := Lib.hid j1
    have D1 := Lib.hid oD
    clear j1 j2 j3 oD
    have hsz : w.heap.size < (w.alloc (.cells #[.int .i64 0, .int .i64 0, .int .i64 0, .int .i64 0, .int .i64 0, .int .i64 0, .int .i64 0, .int .i64 0, .int .i64 0, .int .i64 0, .int .i64 0, .bool false, .slice none 0 0, .slice none 0 0] 36)).heap.size := by simp
    go_wp2_with (with_reducible refine storeU rfl _ _ rfl w.heap.size rfl rfl z1.out ?_)
    (try simp only [Exit.inBlock, Exit.then])
    refine bodyPost_ret (v := .tuple #[.agg #[.int .i64 0, .int .i64 0, .int .i64 0, .int .i64 0, .int .i64 0, .int .i64 0, .int .i64 0, .int .i64 0, .int .i64 0, .int .i64 0, .int .i64 0, .bool false, .slice none 0 0, .slice D n d], .int .i64 0, .int .i64 0]) ?_ rfl ⟨none, 0, D, d, rfl, ⟨rfl, .inl ⟨rfl, rfl⟩⟩, own_base (K.setRow_own _ D1.out hsz) (by omega), (fun _ h => by cases h), grown_other G1.out (K.setRow_grown _ _ _) (fun u hu => by cases hu; exact Nat.le_refl _)⟩
    exact K.resCell3 Try.results49 _ _ _ w.heap.size _ rfl (run_loadVar_row _ _ 36 36 _ (0, 0) _ (setRow_heap _ _ _ _ _ _ z1.out) Try.underlying36 rfl info_up)
set_option maxHeartbeats 4000000 in
theorem upperOf_0n (w : World) (g : Nat) (V : Value) (h : Rp w g none 0 0 [] 0) : Calls Try.prog 49 #[.iface 109 V, .pointer (some ⟨g, 0, none⟩)] w (TakeOut Uh.zero [] [] 0 0 0 g w) := by
  have hg := h.lt
  have HR := Lib.hid (h.below (Joins.below_alloc1 w (.cells #[.int .i64 0, .int .i64 0, .int .i64 0, .int .i64 0, .int .i64 0, .int .i64 0, .int .i64 0, .int .i64 0, .int .i64 0, .int .i64 0, .int .i64 0, .bool false, .slice none 0 0, .slice none 0 0] 36)))
  have z0 := Lib.hid (K.new w (.cells #[.int .i64 0, .int .i64 0, .int .i64 0, .int .i64 0, .int .i64 0, .int .i64 0, .int .i64 0, .int .i64 0, .int .i64 0, .int .i64 0, .int .i64 0, .bool false, .slice none 0 0, .slice none 0 0] 36))
  have G0 := Lib.hid (show w.grownBy (w.alloc (.cells #[.int .i64 0, .int .i64 0, .int .i64 0, .int .i64 0, .int .i64 0, .int .i64 0, .int .i64 0, .int .i64 0, .int .i64 0, .int .i64 0, .int .i64 0, .bool false, .slice none 0 0, .slice none 0 0] 36)) (some g) from only_new (K.refl w _) _)
  clear h
  have ta_tcp := ta_other_tcp V
  have ta_udp := ta_other_udp V
  have ta_icmp := ta_other_icmp V
  go_enter Try.func49, Try.ntmps49
  go_wp2_with fail
  refine wp_region_grow (w := (w.alloc (.cells #[.int .i64 0, .int .i64 0, .int .i64 0, .int .i64 0, .int .i64 0, .int .i64 0, .int .i64 0, .int .i64 0, .int .i64 0, .int .i64 0, .int .i64 0, .bool false, .slice none 0 0, .slice none 0 0] 36))) (some g) (by kernel_rfl) 8 45 [(0, 36), (1, 37), (2, 38), (3, 39), (4, 40), (5, 41), (6, 42), (7, 43)] _ ([.val (.pointer (some ⟨g, 0, none⟩)), .val (.pointer (some ⟨g, 0, none⟩)), .val (.pointer (some ⟨g, 0, none⟩)), .val (.pointer (some ⟨g, 0, none⟩)), .val (.pointer (some ⟨g, 0, none⟩)), .val (.pointer (some ⟨g, 0, none⟩)), .val (.int .i64 0), .any]) (by kernel_rfl) (by kernel_rfl) rfl 7 43 (by omega) (by decide) rfl (fun b' v => w.grownBy v (some g) ∧ v.heap[w.heap.size]? = some (.cells #[.int .i64 0, .int .i64 0, .int .i64 0, .int .i64 0, .int .i64 0, .int .i64 0, .int .i64 0, .int .i64 0, .int .i64 0, .int .i64 0, .int .i64 0, .bool false, .slice none 0 0, .slice none 0 0] 36 (0, 0)) ∧ (w.alloc (.cells #[.int .i64 0, .int .i64 0, .int .i64 0, .int .i64 0, .int .i64 0, .int .i64 0, .int .i64 0, .int .i64 0, .int .i64 0, .int .i64 0, .int .i64 0, .bool false, .slice none 0 0, .slice none 0 0] 36)).heap.size ≤ v.heap.size ∧ (b' = false → Rp v g none 0 0 [] 0)) (fun b' v v' hb h => ⟨grownBy_trans h.1 (below_grown hb _), K.below hb h.2.1, Nat.le_trans h.2.2.1 hb.size, fun e => (h.2.2.2 e).below hb⟩) ⟨⟨G0.out.os, G0.out.tape, G0.out.output, G0.out.size, G0.out.block⟩, z0.out, Nat.le_refl _, fun _ => ⟨HR.out.blk, HR.out.rb, HR.out.len, HR.out.small, HR.out.cap⟩⟩ (OwnB (w.alloc (.cells #[.int .i64 0, .int .i64 0, .int .i64 0, .int .i64 0, .int .i64 0, .int .i64 0, .int .i64 0, .int .i64 0, .int .i64 0, .int .i64 0, .int .i64 0, .bool false, .slice none 0 0, .slice none 0 0] 36)).heap.size 0 []) (fun v v' u hb h => OwnB.on v v' u hb h) ?_ ?_ ?_
  · intro j o hj hjp ho b' a' v K' hbt hx hnd hJJ hK
    match j, hj, hjp, ho with
    | 0, _, _, ho =>
      obtain rfl := Option.some.inj ho
      have h0 : a'.eval (.tmp 1) = .pointer (some ⟨g, 0, none⟩) := (hx 1 (by decide)).trans rfl
      exact u_move _ _ rfl h0 (hK _ _ rfl (Below.refl _ _))
    | 1, _, _, ho =>
      obtain rfl := Option.some.inj ho
      have h0 : a'.eval (.tmp 36) = .pointer (some ⟨g, 0, none⟩) := (grow_of hnd 0 36 (by kernel_rfl) (by decide) :)
      exact t_nil _ _ rfl h0 (hK _ _ rfl (Below.refl _ _))
    | 2, _, _, ho =>
      obtain rfl := Option.some.inj ho
      have h0 : a'.eval (.tmp 37) = .pointer (some ⟨g, 0, none⟩) := (grow_of hnd 1 37 (by kernel_rfl) (by decide) :)
      exact t_fldR _ _ rfl h0 (hK _ _ rfl (Below.refl _ _))
    | 3, _, _, ho =>
      obtain rfl := Option.some.inj ho
      have h0 : a'.eval (.tmp 1) = .pointer (some ⟨g, 0, none⟩) := (hx 1 (by decide)).trans rfl
      exact u_move _ _ rfl h0 (hK _ _ rfl (Below.refl _ _))
    | 4, _, _, ho =>
      obtain rfl := Option.some.inj ho
      have h0 : a'.eval (.tmp 39) = .pointer (some ⟨g, 0, none⟩) := (grow_of hnd 3 39 (by kernel_rfl) (by decide) :)
      exact t_nil _ _ rfl h0 (hK _ _ rfl (Below.refl _ _))
    | 5, _, _, ho =>
      obtain rfl := Option.some.inj ho
      have h0 : a'.eval (.tmp 40) = .pointer (some ⟨g, 0, none⟩) := (grow_of hnd 4 40 (by kernel_rfl) (by decide) :)
      exact t_fldR _ _ rfl h0 (hK _ _ rfl (Below.refl _ _))
    | 6, _, _, ho =>
      obtain rfl := Option.some.inj ho
      have h0 : a'.eval (.tmp 41) = .pointer (some ⟨g, 0, none⟩) := (grow_of hnd 5 41 (by kernel_rfl) (by decide) :)
      cases b' with
      | false =>
        refine t_left _ _ _ rfl h0 (Calls.mono (leftP v g none 0 0 [] 0 0 (hJJ.2.2.2 rfl) (by omega)) ?_)
        rintro e' v' ⟨rfl, b6⟩
        exact ⟨_, rfl, hK _ _ rfl b6⟩
      | true =>
        exact absurd (hbt (by kernel_rfl)) (by simp)
    | 7, _, hjp, _ => exact absurd rfl hjp
    | j + 8, hj, _, _ => omega
  · intro o ho a' v K' hx hnd hJJ hK
    obtain rfl := Option.some.inj ho
    have h0 : a'.eval (.tmp 38) = .pointer (some ⟨g, 0, none⟩) := (grow_of hnd 2 38 (by kernel_rfl) (by decide) :)
    have h1 : a'.eval (.tmp 42) = .int .i64 0 := (grow_of hnd 6 42 (by kernel_rfl) (by decide) :)
    refine t_take _ _ _ _ _ rfl h0 h1 (Calls.mono (takeP0 v g (hJJ.2.2.2 rfl)) ?_)
    rintro e' v' ⟨E', k', rfl, o8, r8, g8⟩
    exact ⟨_, rfl, hK _ _ ⟨E', k', rfl, own_base o8 hJJ.2.2.1⟩ g8 ⟨grownBy_trans hJJ.1 g8, K.kept g8 hJJ.2.1 (fun u hu => by cases hu; omega), Nat.le_trans hJJ.2.2.1 g8.size, fun e => by cases e⟩⟩
  · intro f v hf OG hJJ
    have e0 : f 0 = (.pointer (some ⟨g, 0, none⟩)) := hf (0, 36) (by decide) (by decide)
    have e1 : f 1 = (.pointer (some ⟨g, 0, none⟩)) := hf (1, 37) (by decide) (by decide)
    have e2 : f 2 = (.pointer (some ⟨g, 0, none⟩)) := hf (2, 38) (by decide) (by decide)
    have e3 : f 3 = (.pointer (some ⟨g, 0, none⟩)) := hf (3, 39) (by decide) (by decide)
    have e4 : f 4 = (.pointer (some ⟨g, 0, none⟩)) := hf (4, 40) (by decide) (by decide)
    have e5 : f 5 = (.pointer (some ⟨g, 0, none⟩)) := hf (5, 41) (by decide) (by decide)
    have e6 : f 6 = (.int .i64 0) := hf (6, 42) (by decide) (by decide)
    simp only [List.foldl_cons, List.foldl_nil, List.drop_succ_cons, List.drop_zero, e0, e1, e2, e3, e4, e5, e6]
    clear e0 e1 e2 e3 e4 e5 e6 hf
    go_simp
    obtain ⟨D, d, e9, oD⟩ := OG
    rw [e9]
    clear e9
    obtain ⟨j1, j2, j3, _⟩ := hJJ
    have z1 := Lib.hid j2
    have G1 := Lib.hid j1
    have D1 := Lib.hid oD
    clear j1 j2 j3 oD
    have hsz : w.heap.size < (w.alloc (.cells #[.int .i64 0, .int .i64 0, .int .i64 0, .int .i64 0, .int .i64 0, .int .i64 0, .int .i64 0, .int .i64 0, .int .i64 0, .int .i64 0, .int .i64 0, .bool false, .slice none 0 0, .slice none 0 0] 36)).heap.size := by simp
    go_wp2_with (with_reducible refine storeU rfl _ _ rfl w.heap.size rfl rfl z1.out ?_)
    (try simp only [Exit.inBlock, Exit.then])
    refine bodyPost_ret (v := .tuple #[.agg #[.int .i64 0, .int .i64 0, .int .i64 0, .int .i64 0, .int .i64 0, .int .i64 0, .int .i64 0, .int .i64 0, .int .i64 0, .int .i64 0, .int .i64 0, .bool false, .slice none 0 0, .slice D 0 d], .int .i64 0, .int .i64 0]) ?_ rfl ⟨none, 0, D, d, rfl, ⟨rfl, .inl ⟨rfl, rfl⟩⟩, own_base (K.setRow_own _ D1.out hsz) (by omega), (fun _ h => by cases h), grown_other G1.out (K.setRow_grown _ _ _) (fun u hu => by cases hu; exact Nat.le_refl _)⟩
    exact K.resCell3 Try.results49 _ _ _ w.heap.size _ rfl (run_loadVar_row _ _ 36 36 _ (0, 0) _ (setRow_heap _ _ _ _ _ _ z1.out) Try.underlying36 rfl info_up)
theorem kindU_split {p k : Int} (h : upTo p 255 = true) (hk : k = 4 ∨ k = 6) : (p = 6 ∧ kindU p k = 1) ∨ (p = 17 ∧ kindU p k = 2) ∨ (p = 1 ∧ k = 4 ∧ kindU p k = 3) ∨ (p = 58 ∧ k = 6 ∧ kindU p k = 3) ∨ (p = 1 ∧ k = 6 ∧ kindU p k = 0) ∨ (p = 58 ∧ k = 4 ∧ kindU p k = 0) ∨ (p ≠ 6 ∧ p ≠ 17 ∧ p ≠ 1 ∧ p ≠ 58 ∧ kindU p k = 0) := by
  by_cases h6 : p = 6
  · subst h6; left; simp [kindU]
  · by_cases h17 : p = 17
    · subst h17; right; left; simp [kindU]
    · by_cases h1 : p = 1
      · subst h1
        rcases hk with rfl | rfl
        · right; right; left; simp [kindU]
        · right; right; right; right; left; simp [kindU]
      · by_cases h58 : p = 58
        · subst h58
          rcases hk with rfl | rfl
          · right; right; right; right; right; left; simp [kindU]
          · right; right; right; left; simp [kindU]
        · right; right; right; right; right; right
          refine ⟨h6, h17, h1, h58, ?_⟩
          simp [kindU, h6, h17, h1, h58]
set_option maxHeartbeats 1000000 in
theorem kind_impl (p k q : Int) (w : World) (hp : upTo p 255 = true) (hk : k = 4 ∨ k = 6) (hq : kindU p k = q) : Calls Try.prog 48 #[.int .i64 p, .int .i64 k] w fun e w' => e = .returned (.int .i64 q) ∧ Below w.heap.size w w' := by
  obtain ⟨l0, l1⟩ := upTo_iff.1 hp
  rcases kindU_split hp hk with ⟨rfl, e⟩ | ⟨rfl, e⟩ | ⟨rfl, rfl, e⟩ | ⟨rfl, rfl, e⟩ | ⟨rfl, rfl, e⟩ | ⟨rfl, rfl, e⟩ | ⟨h6, h17, h1, h58, e⟩
  · obtain rfl := hq.symm.trans e
    clear e hp l0 l1 hq
    rcases hk with rfl | rfl
    all_goals
      go_enter Try.func48, Try.ntmps48
      go_wp2
      go_ret
      exact ⟨rfl, Below.refl _ _⟩
  · obtain rfl := hq.symm.trans e
    clear e hp l0 l1 hq
    rcases hk with rfl | rfl
    all_goals
      go_enter Try.func48, Try.ntmps48
      go_wp2
      go_ret
      exact ⟨rfl, Below.refl _ _⟩
  iterate 4
    · obtain rfl := hq.symm.trans e
      clear e hp l0 l1 hq hk
      go_enter Try.func48, Try.ntmps48
      go_wp2
      go_ret
      exact ⟨rfl, Below.refl _ _⟩
  · obtain rfl := hq.symm.trans e
    have g6 : (p == 6) = false := by simp [h6]
    have g17 : (p == 17) = false := by simp [h17]
    have g1 : (p == 1) = false := by simp [h1]
    have g58 : (p == 58) = false := by simp [h58]
    have j0 : ¬ p < 0 := by omega
    have j1 : ¬ 255 < p := by omega
    clear e hp hq
    rcases hk with rfl | rfl
    all_goals
      go_enter Try.func48, Try.ntmps48
      go_wp2
      go_ret
      exact ⟨rfl, Below.refl _ _⟩
end Go.Proofs.Ythogonpjkngpjaa
