/-
  PrefixRead in the program.
-/
import Derived.Test.YtckakpcjbndijabDoorPfxReadLib
import Derived.Test.YtckakpcjbndijabDoorSixRead
namespace Go.Proofs.YtckakpcjbndijabDoor
open Go.RowKit

set_option maxRecDepth 100000 in
set_option maxHeartbeats 1000000 in
theorem implPRead_any (s : ByteArray) (w : World) (h : s.data.toList = [97, 110, 121]) : Calls Tryd.prog 19 #[.string s] w (PReadOut (rdP s.data.toList) w) := by
  have HN := Lib.hid (rdP_any h)
  have h2 : (s.toList == [97, 110, 121]) = true := by rw [ByteArray.toList_eq, h]; rfl
  clear h
  go_enter Tryd.func19, Tryd.ntmps19
  go_wp2
  go_returns
  exact preadOut_any HN.out (by go_grown)

set_option maxRecDepth 100000 in
set_option maxHeartbeats 1000000 in
theorem implPRead_addr (s : ByteArray) (m : Int) (w : World) (hs : s.size ≤ 1048576) (hm : w.cell? ⟨1, 0, none⟩ = some (.int .i64 m)) (h : ¬ s.data.toList = [97, 110, 121]) (h1 : (rdA (cutA s.data.toList)).isSome = false) (B : Bool) (h2 : okNum (cutR s.data.toList) = B) : Calls Tryd.prog 19 #[.string s] w (PReadOut (rdP s.data.toList) w) := by
  obtain ⟨A, hA⟩ : ∃ A, A = cutA s.data.toList := ⟨_, rfl⟩
  obtain ⟨Q, hQ⟩ : ∃ Q, Q = cutR s.data.toList := ⟨_, rfl⟩
  have hc := cut_size s.data.toList
  rw [← hA, ← hQ] at hc
  obtain ⟨p, hp⟩ : ∃ p, p = pfOf A Q := ⟨_, rfl⟩
  have hpb : (rdA A).getD Ad.zero = p.base := by rw [hp]; rfl
  have hpl : numR Q = p.len := by rw [hp]; rfl
  rw [← hA] at h1
  rw [← hQ] at h2
  have cu := fun (v : World) (hv : v.cell? ⟨1, 0, none⟩ = some (.int .i64 m)) => cutCall s m v hs hv
  rw [← hA, ← hQ] at cu
  have hsl : s.data.toList.length = s.size := rfl
  have ar := fun (v : World) (hv : v.cell? ⟨1, 0, none⟩ = some (.int .i64 m)) => implAddrRead (strOf A) m v (by rw [strOf_size]; omega) hv
  unfold ReadOut at ar
  rw [strOf_data, h1, hpb] at ar
  have nr := fun v : World => implNumRead (strOf Q) v (by rw [strOf_size]; omega)
  unfold NumPost at nr
  rw [strOf_data, h2, hpl] at nr
  rw [rdP_else h, ← hA, ← hQ]
  have HN := Lib.hid (rdQ_no1 (r := Q) h1)
  have CU := Lib.hid cu
  have AR := Lib.hid ar
  have NR := Lib.hid nr
  have HM := Lib.hid (fun o : Obj => cell_on (Joins.below_alloc1 w o) hm)
  have hany : (s.toList == [97, 110, 121]) = false := by
    simp only [beq_eq_false_iff_ne, ne_eq]
    rw [ByteArray.toList_eq]
    exact h
  obtain ⟨R, hR⟩ : ∃ R, R = rdQ A Q := ⟨_, rfl⟩
  rw [← hR] at HN ⊢
  clear cu ar nr hm h hA hQ hc hp hpb hpl h1 h2 hR hsl 
  go_enter Tryd.func19, Tryd.ntmps19
  go_wp2_with fail
  refine (CU.out _ (HM.out _)).mono ?_
  rintro e w1 ⟨bc, rfl, b1⟩
  have q1 := Lib.hid (new_row b1)
  have B1 := Lib.hid (bthen (Joins.below_alloc1 w _) b1)
  have HM1 := Lib.hid (cell_on b1 (HM.out _))
  clear b1
  go_wp2_with fail
  refine (AR.out _ HM1.out).mono ?_
  rintro e w2 ⟨rfl, b2⟩
  have q2 := Lib.hid (row_on b2 (row_lt q1.out) q1.out)
  have B2 := Lib.hid (bthen B1.out b2)
  clear b2
  go_wp2_with fail
  refine (NR.out _).mono ?_
  rintro e w3 ⟨rfl, b3⟩
  obtain ⟨c0, c1, c2, c3, c4⟩ := ad_box b3
  have q3 := row_on b3 (row_lt (row_on (Joins.below_alloc1 w2 _) (row_lt q2.out) q2.out)) (row_on (Joins.below_alloc1 w2 _) (row_lt q2.out) q2.out)
  have q4 := Lib.hid (row_on (Joins.below_alloc1 w3 (.cells #[.int .i64 p.base.k, .int .i64 p.base.a, .int .i64 p.base.b, .int .i64 p.base.c, .int .i64 p.base.d, .int .i64 p.len] 36)) (row_lt q3) q3)
  have B4 := Lib.hid (bthen (bthen (bthen B2.out (Joins.below_alloc1 w2 _)) b3) (Joins.below_alloc1 w3 (.cells #[.int .i64 p.base.k, .int .i64 p.base.a, .int .i64 p.base.b, .int .i64 p.base.c, .int .i64 p.base.d, .int .i64 p.len] 36)))
  clear b3 q3
  obtain ⟨⟨d0, d1, d2, d3, d4, d5⟩, f0, f1, f2, f3, f4, f5⟩ := row6 q4.out
  go_wp2
  (try simp only [Exit.inBlock, Exit.then])
  refine bodyPost_ret (v := .tuple #[.agg #[.int .i64 0, .int .i64 0, .int .i64 0, .int .i64 0, .int .i64 0, .int .i64 0], .bool false]) ?_ rfl (preadOut_no HN.out (below6 B4.out (Nat.le_refl _)))
  refine res_cell_tmp Tryd.results19 _ _ _ w.heap.size _ ?_ (run_loadVar_row _ _ 36 36 _ (0, 0) _ (set6 _ _ _ _ _ _ q4.out) Tryd.underlying36 rfl info_pfx)
  rfl

set_option maxRecDepth 100000 in
set_option maxHeartbeats 1000000 in
theorem implPRead_num (s : ByteArray) (m : Int) (w : World) (hs : s.size ≤ 1048576) (hm : w.cell? ⟨1, 0, none⟩ = some (.int .i64 m)) (h : ¬ s.data.toList = [97, 110, 121]) (h1 : (rdA (cutA s.data.toList)).isSome = true) (h2 : okNum (cutR s.data.toList) = false) : Calls Tryd.prog 19 #[.string s] w (PReadOut (rdP s.data.toList) w) := by
  obtain ⟨A, hA⟩ : ∃ A, A = cutA s.data.toList := ⟨_, rfl⟩
  obtain ⟨Q, hQ⟩ : ∃ Q, Q = cutR s.data.toList := ⟨_, rfl⟩
  have hc := cut_size s.data.toList
  rw [← hA, ← hQ] at hc
  obtain ⟨p, hp⟩ : ∃ p, p = pfOf A Q := ⟨_, rfl⟩
  have hpb : (rdA A).getD Ad.zero = p.base := by rw [hp]; rfl
  have hpl : numR Q = p.len := by rw [hp]; rfl
  rw [← hA] at h1
  rw [← hQ] at h2
  have cu := fun (v : World) (hv : v.cell? ⟨1, 0, none⟩ = some (.int .i64 m)) => cutCall s m v hs hv
  rw [← hA, ← hQ] at cu
  have hsl : s.data.toList.length = s.size := rfl
  have ar := fun (v : World) (hv : v.cell? ⟨1, 0, none⟩ = some (.int .i64 m)) => implAddrRead (strOf A) m v (by rw [strOf_size]; omega) hv
  unfold ReadOut at ar
  rw [strOf_data, h1, hpb] at ar
  have nr := fun v : World => implNumRead (strOf Q) v (by rw [strOf_size]; omega)
  unfold NumPost at nr
  rw [strOf_data, h2, hpl] at nr
  rw [rdP_else h, ← hA, ← hQ]
  have HN := Lib.hid (rdQ_no2 (a := A) h2)
  have CU := Lib.hid cu
  have AR := Lib.hid ar
  have NR := Lib.hid nr
  have HM := Lib.hid (fun o : Obj => cell_on (Joins.below_alloc1 w o) hm)
  have hany : (s.toList == [97, 110, 121]) = false := by
    simp only [beq_eq_false_iff_ne, ne_eq]
    rw [ByteArray.toList_eq]
    exact h
  obtain ⟨R, hR⟩ : ∃ R, R = rdQ A Q := ⟨_, rfl⟩
  rw [← hR] at HN ⊢
  clear cu ar nr hm h hA hQ hc hp hpb hpl h1 h2 hR hsl 
  go_enter Tryd.func19, Tryd.ntmps19
  go_wp2_with fail
  refine (CU.out _ (HM.out _)).mono ?_
  rintro e w1 ⟨bc, rfl, b1⟩
  have q1 := Lib.hid (new_row b1)
  have B1 := Lib.hid (bthen (Joins.below_alloc1 w _) b1)
  have HM1 := Lib.hid (cell_on b1 (HM.out _))
  clear b1
  go_wp2_with fail
  refine (AR.out _ HM1.out).mono ?_
  rintro e w2 ⟨rfl, b2⟩
  have q2 := Lib.hid (row_on b2 (row_lt q1.out) q1.out)
  have B2 := Lib.hid (bthen B1.out b2)
  clear b2
  go_wp2_with fail
  refine (NR.out _).mono ?_
  rintro e w3 ⟨rfl, b3⟩
  obtain ⟨c0, c1, c2, c3, c4⟩ := ad_box b3
  have q3 := row_on b3 (row_lt (row_on (Joins.below_alloc1 w2 _) (row_lt q2.out) q2.out)) (row_on (Joins.below_alloc1 w2 _) (row_lt q2.out) q2.out)
  have q4 := Lib.hid (row_on (Joins.below_alloc1 w3 (.cells #[.int .i64 p.base.k, .int .i64 p.base.a, .int .i64 p.base.b, .int .i64 p.base.c, .int .i64 p.base.d, .int .i64 p.len] 36)) (row_lt q3) q3)
  have B4 := Lib.hid (bthen (bthen (bthen B2.out (Joins.below_alloc1 w2 _)) b3) (Joins.below_alloc1 w3 (.cells #[.int .i64 p.base.k, .int .i64 p.base.a, .int .i64 p.base.b, .int .i64 p.base.c, .int .i64 p.base.d, .int .i64 p.len] 36)))
  clear b3 q3
  obtain ⟨⟨d0, d1, d2, d3, d4, d5⟩, f0, f1, f2, f3, f4, f5⟩ := row6 q4.out
  go_wp2
  (try simp only [Exit.inBlock, Exit.then])
  refine bodyPost_ret (v := .tuple #[.agg #[.int .i64 0, .int .i64 0, .int .i64 0, .int .i64 0, .int .i64 0, .int .i64 0], .bool false]) ?_ rfl (preadOut_no HN.out (below6 B4.out (Nat.le_refl _)))
  refine res_cell_tmp Tryd.results19 _ _ _ w.heap.size _ ?_ (run_loadVar_row _ _ 36 36 _ (0, 0) _ (set6 _ _ _ _ _ _ q4.out) Tryd.underlying36 rfl info_pfx)
  rfl

set_option maxRecDepth 100000 in
set_option maxHeartbeats 1000000 in
theorem implPRead_bad (s : ByteArray) (m : Int) (w : World) (hs : s.size ≤ 1048576) (hm : w.cell? ⟨1, 0, none⟩ = some (.int .i64 m)) (h : ¬ s.data.toList = [97, 110, 121]) (h1 : (rdA (cutA s.data.toList)).isSome = true) (h2 : okNum (cutR s.data.toList) = true) (h3 : (pfOf (cutA s.data.toList) (cutR s.data.toList)).ok = false) : Calls Tryd.prog 19 #[.string s] w (PReadOut (rdP s.data.toList) w) := by
  obtain ⟨A, hA⟩ : ∃ A, A = cutA s.data.toList := ⟨_, rfl⟩
  obtain ⟨Q, hQ⟩ : ∃ Q, Q = cutR s.data.toList := ⟨_, rfl⟩
  have hc := cut_size s.data.toList
  rw [← hA, ← hQ] at hc
  obtain ⟨p, hp⟩ : ∃ p, p = pfOf A Q := ⟨_, rfl⟩
  have hpb : (rdA A).getD Ad.zero = p.base := by rw [hp]; rfl
  have hpl : numR Q = p.len := by rw [hp]; rfl
  rw [← hA] at h1
  rw [← hQ] at h2
  have cu := fun (v : World) (hv : v.cell? ⟨1, 0, none⟩ = some (.int .i64 m)) => cutCall s m v hs hv
  rw [← hA, ← hQ] at cu
  have hsl : s.data.toList.length = s.size := rfl
  have ar := fun (v : World) (hv : v.cell? ⟨1, 0, none⟩ = some (.int .i64 m)) => implAddrRead (strOf A) m v (by rw [strOf_size]; omega) hv
  unfold ReadOut at ar
  rw [strOf_data, h1, hpb] at ar
  have nr := fun v : World => implNumRead (strOf Q) v (by rw [strOf_size]; omega)
  unfold NumPost at nr
  rw [strOf_data, h2, hpl] at nr
  rw [rdP_else h, ← hA, ← hQ]
  rw [← hA, ← hQ] at h3
  have HN := Lib.hid (rdQ_no3 h3)
  rw [← hp] at h3
  have pk := implPrefixOk p
  rw [h3] at pk
  have PK := Lib.hid pk
  have CU := Lib.hid cu
  have AR := Lib.hid ar
  have NR := Lib.hid nr
  have HM := Lib.hid (fun o : Obj => cell_on (Joins.below_alloc1 w o) hm)
  have hany : (s.toList == [97, 110, 121]) = false := by
    simp only [beq_eq_false_iff_ne, ne_eq]
    rw [ByteArray.toList_eq]
    exact h
  obtain ⟨R, hR⟩ : ∃ R, R = rdQ A Q := ⟨_, rfl⟩
  rw [← hR] at HN ⊢
  clear cu ar nr hm h hA hQ hc hp hpb hpl h1 h2 hR hsl pk h3
  go_enter Tryd.func19, Tryd.ntmps19
  go_wp2_with fail
  refine (CU.out _ (HM.out _)).mono ?_
  rintro e w1 ⟨bc, rfl, b1⟩
  have q1 := Lib.hid (new_row b1)
  have B1 := Lib.hid (bthen (Joins.below_alloc1 w _) b1)
  have HM1 := Lib.hid (cell_on b1 (HM.out _))
  clear b1
  go_wp2_with fail
  refine (AR.out _ HM1.out).mono ?_
  rintro e w2 ⟨rfl, b2⟩
  have q2 := Lib.hid (row_on b2 (row_lt q1.out) q1.out)
  have B2 := Lib.hid (bthen B1.out b2)
  clear b2
  go_wp2_with fail
  refine (NR.out _).mono ?_
  rintro e w3 ⟨rfl, b3⟩
  obtain ⟨c0, c1, c2, c3, c4⟩ := ad_box b3
  have q3 := row_on b3 (row_lt (row_on (Joins.below_alloc1 w2 _) (row_lt q2.out) q2.out)) (row_on (Joins.below_alloc1 w2 _) (row_lt q2.out) q2.out)
  have q4 := Lib.hid (row_on (Joins.below_alloc1 w3 (.cells #[.int .i64 p.base.k, .int .i64 p.base.a, .int .i64 p.base.b, .int .i64 p.base.c, .int .i64 p.base.d, .int .i64 p.len] 36)) (row_lt q3) q3)
  have B4 := Lib.hid (bthen (bthen (bthen B2.out (Joins.below_alloc1 w2 _)) b3) (Joins.below_alloc1 w3 (.cells #[.int .i64 p.base.k, .int .i64 p.base.a, .int .i64 p.base.b, .int .i64 p.base.c, .int .i64 p.base.d, .int .i64 p.len] 36)))
  clear b3 q3
  go_wp2_with fail
  refine (PK.out _).mono ?_
  rintro e w5 ⟨rfl, b5⟩
  obtain ⟨e0, e1, e2, e3, e4, e5⟩ := pf_box b5
  have q5 := Lib.hid (row_on b5 (row_lt q4.out) q4.out)
  obtain ⟨⟨d0, d1, d2, d3, d4, d5⟩, f0, f1, f2, f3, f4, f5⟩ := row6 q5.out
  have B5 := Lib.hid (bthen B4.out b5)
  clear b5
  go_wp2
  (try simp only [Exit.inBlock, Exit.then])
  refine bodyPost_ret (v := .tuple #[.agg #[.int .i64 0, .int .i64 0, .int .i64 0, .int .i64 0, .int .i64 0, .int .i64 0], .bool false]) ?_ rfl (preadOut_no HN.out (below6 B5.out (Nat.le_refl _)))
  refine res_cell_tmp Tryd.results19 _ _ _ w.heap.size _ ?_ (run_loadVar_row _ _ 36 36 _ (0, 0) _ (set6 _ _ _ _ _ _ q5.out) Tryd.underlying36 rfl info_pfx)
  rfl

set_option maxRecDepth 100000 in
set_option maxHeartbeats 1000000 in
theorem implPRead_yes (s : ByteArray) (m : Int) (w : World) (hs : s.size ≤ 1048576) (hm : w.cell? ⟨1, 0, none⟩ = some (.int .i64 m)) (h : ¬ s.data.toList = [97, 110, 121]) (h1 : (rdA (cutA s.data.toList)).isSome = true) (h2 : okNum (cutR s.data.toList) = true) (h3 : (pfOf (cutA s.data.toList) (cutR s.data.toList)).ok = true) : Calls Tryd.prog 19 #[.string s] w (PReadOut (rdP s.data.toList) w) := by
  obtain ⟨A, hA⟩ : ∃ A, A = cutA s.data.toList := ⟨_, rfl⟩
  obtain ⟨Q, hQ⟩ : ∃ Q, Q = cutR s.data.toList := ⟨_, rfl⟩
  have hc := cut_size s.data.toList
  rw [← hA, ← hQ] at hc
  obtain ⟨p, hp⟩ : ∃ p, p = pfOf A Q := ⟨_, rfl⟩
  have hpb : (rdA A).getD Ad.zero = p.base := by rw [hp]; rfl
  have hpl : numR Q = p.len := by rw [hp]; rfl
  rw [← hA] at h1
  rw [← hQ] at h2
  have cu := fun (v : World) (hv : v.cell? ⟨1, 0, none⟩ = some (.int .i64 m)) => cutCall s m v hs hv
  rw [← hA, ← hQ] at cu
  have hsl : s.data.toList.length = s.size := rfl
  have ar := fun (v : World) (hv : v.cell? ⟨1, 0, none⟩ = some (.int .i64 m)) => implAddrRead (strOf A) m v (by rw [strOf_size]; omega) hv
  unfold ReadOut at ar
  rw [strOf_data, h1, hpb] at ar
  have nr := fun v : World => implNumRead (strOf Q) v (by rw [strOf_size]; omega)
  unfold NumPost at nr
  rw [strOf_data, h2, hpl] at nr
  rw [rdP_else h, ← hA, ← hQ]
  rw [← hA, ← hQ] at h3
  have HN := Lib.hid (rdQ_yes h1 h2 h3)
  rw [← hp] at h3 HN
  have pk := implPrefixOk p
  rw [h3] at pk
  have PK := Lib.hid pk
  have CU := Lib.hid cu
  have AR := Lib.hid ar
  have NR := Lib.hid nr
  have HM := Lib.hid (fun o : Obj => cell_on (Joins.below_alloc1 w o) hm)
  have hany : (s.toList == [97, 110, 121]) = false := by
    simp only [beq_eq_false_iff_ne, ne_eq]
    rw [ByteArray.toList_eq]
    exact h
  obtain ⟨R, hR⟩ : ∃ R, R = rdQ A Q := ⟨_, rfl⟩
  rw [← hR] at HN ⊢
  clear cu ar nr hm h hA hQ hc hp hpb hpl h1 h2 hR hsl pk h3
  go_enter Tryd.func19, Tryd.ntmps19
  go_wp2_with fail
  refine (CU.out _ (HM.out _)).mono ?_
  rintro e w1 ⟨bc, rfl, b1⟩
  have q1 := Lib.hid (new_row b1)
  have B1 := Lib.hid (bthen (Joins.below_alloc1 w _) b1)
  have HM1 := Lib.hid (cell_on b1 (HM.out _))
  clear b1
  go_wp2_with fail
  refine (AR.out _ HM1.out).mono ?_
  rintro e w2 ⟨rfl, b2⟩
  have q2 := Lib.hid (row_on b2 (row_lt q1.out) q1.out)
  have B2 := Lib.hid (bthen B1.out b2)
  clear b2
  go_wp2_with fail
  refine (NR.out _).mono ?_
  rintro e w3 ⟨rfl, b3⟩
  obtain ⟨c0, c1, c2, c3, c4⟩ := ad_box b3
  have q3 := row_on b3 (row_lt (row_on (Joins.below_alloc1 w2 _) (row_lt q2.out) q2.out)) (row_on (Joins.below_alloc1 w2 _) (row_lt q2.out) q2.out)
  have q4 := Lib.hid (row_on (Joins.below_alloc1 w3 (.cells #[.int .i64 p.base.k, .int .i64 p.base.a, .int .i64 p.base.b, .int .i64 p.base.c, .int .i64 p.base.d, .int .i64 p.len] 36)) (row_lt q3) q3)
  have B4 := Lib.hid (bthen (bthen (bthen B2.out (Joins.below_alloc1 w2 _)) b3) (Joins.below_alloc1 w3 (.cells #[.int .i64 p.base.k, .int .i64 p.base.a, .int .i64 p.base.b, .int .i64 p.base.c, .int .i64 p.base.d, .int .i64 p.len] 36)))
  clear b3 q3
  go_wp2_with fail
  refine (PK.out _).mono ?_
  rintro e w5 ⟨rfl, b5⟩
  obtain ⟨e0, e1, e2, e3, e4, e5⟩ := pf_box b5
  have q5 := Lib.hid (row_on b5 (row_lt q4.out) q4.out)
  obtain ⟨⟨d0, d1, d2, d3, d4, d5⟩, f0, f1, f2, f3, f4, f5⟩ := row6 q5.out
  have B5 := Lib.hid (bthen B4.out b5)
  clear b5
  go_wp2
  (try simp only [Exit.inBlock, Exit.then])
  refine bodyPost_ret (v := .tuple #[.agg #[.int .i64 p.base.k, .int .i64 p.base.a, .int .i64 p.base.b, .int .i64 p.base.c, .int .i64 p.base.d, .int .i64 p.len], .bool true]) ?_ rfl (preadOut_yes HN.out (below6 B5.out (Nat.le_refl _)))
  refine res_cell_tmp Tryd.results19 _ _ _ w.heap.size _ ?_ (run_loadVar_row _ _ 36 36 _ (0, 0) _ (set6 _ _ _ _ _ _ q5.out) Tryd.underlying36 rfl info_pfx)
  rfl

set_option maxRecDepth 100000 in
theorem implPrefixRead (s : ByteArray) (m : Int) (w : World) (hs : s.size ≤ 1048576) (hm : w.cell? ⟨1, 0, none⟩ = some (.int .i64 m)) : Calls Tryd.prog 19 #[.string s] w (PReadOut (rdP s.data.toList) w) := by
  by_cases h : s.data.toList = [97, 110, 121]
  · exact implPRead_any s w h
  · cases h1 : (rdA (cutA s.data.toList)).isSome
    · exact implPRead_addr s m w hs hm h h1 _ rfl
    · cases h2 : okNum (cutR s.data.toList)
      · exact implPRead_num s m w hs hm h h1 h2
      · cases h3 : (pfOf (cutA s.data.toList) (cutR s.data.toList)).ok
        · exact implPRead_bad s m w hs hm h h1 h2 h3
        · exact implPRead_yes s m w hs hm h h1 h2 h3
end Go.Proofs.YtckakpcjbndijabDoor
