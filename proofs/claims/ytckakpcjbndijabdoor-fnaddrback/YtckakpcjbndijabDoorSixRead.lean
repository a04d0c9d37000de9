/-
  Reading an address, in the program.
-/
import Derived.Test.YtckakpcjbndijabDoorFourRead
import Derived.Test.YtckakpcjbndijabDoorGroupRead
namespace Go.Proofs.YtckakpcjbndijabDoor
open Go.RowKit

set_option maxRecDepth 100000 in
theorem rd6_len {s : List UInt8} (h : ¬ (splitC 58 s).length = 8) : (rd6 s).map ofA = none := by simp [rd6, h]
set_option maxRecDepth 100000 in
theorem rd6_bad {s p : List UInt8} {i : Nat} (hp : (splitC 58 s)[i]? = some p) (h : okG p = false) : (rd6 s).map ofA = none := by
  have : (splitC 58 s).all okG = false := by
    rw [List.all_eq_false]
    exact ⟨p, List.mem_of_getElem? hp, by simp [h]⟩
  simp [rd6, this]
def six (ps : List (List UInt8)) : List UInt8 := (ps.map valG).flatMap put16N
set_option maxRecDepth 100000 in
theorem six_length (ps : List (List UInt8)) : (six ps).length = 2 * ps.length := by rw [six, put16_len, List.length_map]
set_option maxRecDepth 100000 in
theorem rd6_all {s : List UInt8} (h : (splitC 58 s).length = 8) (ha : ∀ p ∈ splitC 58 s, okG p = true) : (rd6 s).map ofA = some (ofA (six (splitC 58 s))) := by
  have : (splitC 58 s).all okG = true := List.all_eq_true.2 ha
  simp [rd6, this, h, six]

set_option maxRecDepth 100000 in
set_option maxHeartbeats 1000000 in
theorem implSix_len (s : ByteArray) (m : Int) (w : World) (hs : s.size ≤ 1048576) (hm : w.cell? ⟨1, 0, none⟩ = some (.int .i64 m)) (h8 : ¬ (splitC 58 s.data.toList).length = 8) :
    Calls Tryd.prog 40 #[.string s] w (ReadOut ((rd6 s.data.toList).map ofA) w) := by
  have HN := Lib.hid (rd6_len h8)
  obtain ⟨ps, hps⟩ : ∃ ps, ps = splitC 58 s.data.toList := ⟨_, rfl⟩
  obtain ⟨N, hN⟩ : ∃ N, ps.length = N := ⟨_, rfl⟩
  have h5 : ((N : Int) == 8) = false := by rw [hps] at hN; simp; omega
  have h6 : ((N : Int) != 8) = true := by rw [hps] at hN; simp; omega
  have sp : ∀ v : World, v.cell? ⟨1, 0, none⟩ = some (.int .i64 m) → Calls Tryd.prog 67 #[.string s, .string ⟨#[58]⟩] v fun e w' => ∃ g, e = .returned (.slice (some ⟨g, 0, none⟩) N N) ∧ (∀ (j : Nat) (p : List UInt8), ps[j]? = some p → w'.cell? ⟨g, j, none⟩ = some (.string (strOf p))) ∧ Below v.heap.size v w' := by
    intro v hv
    have hh := splitCall 58 s m v hs hv
    unfold SplitOut at hh
    rwa [← hps, hN] at hh
  have SP := Lib.hid sp
  have HM := Lib.hid (fun o : Obj => cell_on (Joins.below_alloc1 w o) hm)
  clear h8 hps hN sp hm
  go_enter Tryd.func40, Tryd.ntmps40
  go_wp2_with fail
  refine (SP.out _ (HM.out _)).mono ?_
  rintro e w1 ⟨g, rfl, _, b1⟩
  obtain ⟨⟨c0, c1, c2, c3, c4⟩, f0, f1, f2, f3, f4⟩ := row5 (new_row b1)
  go_wp2
  (try simp only [Exit.inBlock, Exit.then])
  refine bodyPost_ret (v := .tuple #[.agg #[.int .i64 0, .int .i64 0, .int .i64 0, .int .i64 0, .int .i64 0], .bool false]) ?_ rfl (readOut_no HN.out (by have := bthen (Joins.below_alloc1 w _) b1; go_grown))
  refine res_cell_tmp Tryd.results40 _ _ _ w.heap.size _ ?_ (run_loadVar_row _ _ 25 25 _ (0, 0) _ (set5 _ _ _ _ _ (new_row b1)) Tryd.underlying25 rfl info_addr)
  rfl

set_option maxRecDepth 100000 in
set_option maxHeartbeats 2000000 in
theorem implSix_go (s : ByteArray) (m : Int) (w : World) (hs : s.size ≤ 1048576) (hm : w.cell? ⟨1, 0, none⟩ = some (.int .i64 m)) (h8 : (splitC 58 s.data.toList).length = 8) :
    Calls Tryd.prog 40 #[.string s] w (ReadOut ((rd6 s.data.toList).map ofA) w) := by
  have HB := Lib.hid (fun (i : Nat) (p : List UInt8) (hp : (splitC 58 s.data.toList)[i]? = some p) (h : okG p = false) => rd6_bad hp h)
  have HA := Lib.hid (fun (ha : ∀ p ∈ splitC 58 s.data.toList, okG p = true) => rd6_all h8 ha)
  have hsz := fun (p : List UInt8) (hp : p ∈ splitC 58 s.data.toList) => split_size 58 s.data.toList p hp
  obtain ⟨ps, hps⟩ : ∃ ps, ps = splitC 58 s.data.toList := ⟨_, rfl⟩
  have sp : ∀ v : World, v.cell? ⟨1, 0, none⟩ = some (.int .i64 m) → Calls Tryd.prog 67 #[.string s, .string ⟨#[58]⟩] v fun e w' => ∃ g, e = .returned (.slice (some ⟨g, 0, none⟩) 8 8) ∧ (∀ (j : Nat) (p : List UInt8), ps[j]? = some p → w'.cell? ⟨g, j, none⟩ = some (.string (strOf p))) ∧ Below v.heap.size v w' := by
    intro v hv
    have hh := splitCall 58 s m v hs hv
    unfold SplitOut at hh
    rwa [h8, ← hps] at hh
  rw [← hps] at HB HA hsz h8
  have HSZ := Lib.hid hsz
  have H8 := Lib.hid h8
  have HS := Lib.hid (show s.data.toList.length ≤ 1048576 from hs)
  obtain ⟨R, hR⟩ : ∃ R, R = (rd6 s.data.toList).map ofA := ⟨_, rfl⟩
  rw [← hR] at HB HA ⊢
  have SP := Lib.hid sp
  have HM := Lib.hid (fun o : Obj => cell_on (Joins.below_alloc1 w o) hm)
  clear h8 hps sp hm hsz hR
  go_enter Tryd.func40, Tryd.ntmps40
  go_wp2_with fail
  refine (SP.out _ (HM.out _)).mono ?_
  rintro e w1 ⟨g, rfl, hcs, b1⟩
  have HC := Lib.hid hcs
  have NR := Lib.hid (new_row b1)
  have hz1 : w.heap.size < w1.heap.size := by have := b1.size; simp at this; omega
  have B1 := Lib.hid (bthen (Joins.below_alloc1 w _) b1)
  clear hcs b1
  go_wp2_with fail
  go_loopw [5, 18] (fun v q wr => ∃ i : Nat, i ≤ 8 ∧ q = .int .i64 i ∧ Hid (∀ p ∈ ps.take i, okG p = true) ∧ Hid (wr.ownsRow w1.heap.size 5 1 v (six (ps.take i)).length (cellsOf (six (ps.take i)))) ∧ Hid (Below w1.heap.size w1 wr)) (fun _ q _ => 8 - (intOf q).toNat)
  case atStart => exact ⟨0, Nat.zero_le _, rfl, Lib.hid (by simp), Lib.hid ⟨rfl, .inl ⟨rfl, rfl⟩⟩, Lib.hid (Below.refl _ _)⟩
  case round =>
    obtain ⟨i, hi, rfl, ha, ho, hb⟩ := hrel
    by_cases hlt : i < 8
    · have hltI : (i : Int) < 8 := by omega
      have hil : i < ps.length := by rw [H8.out]; exact hlt
      obtain ⟨p, hp⟩ : ∃ p, ps[i]? = some p := ⟨_, List.getElem?_eq_getElem hil⟩
      have hc : wr.cell? ⟨g, i, none⟩ = some (.string (strOf p)) := cell_on hb.out (HC.out i p hp)
      have hpl : (strOf p).size ≤ 1048576 := Nat.le_trans (HSZ.out p (List.mem_of_getElem? hp)) HS.out
      have nr := Lib.hid (fun v : World => implGroupRead (strOf p) v hpl)
      have HP := Lib.hid hp
      have hrow := Lib.hid (row_on hb.out hz1 NR.out)
      have B2 := Lib.hid (B1.out.trans (hb.out.mono B1.out.size))
      cases h1 : okG p
      · have nc := Lib.hid (show ∀ v : World, Calls Tryd.prog 68 #[.string (strOf p)] v fun e w' => e = .returned (.tuple #[.int .i64 0, .bool false]) ∧ Below v.heap.size v w' from fun v => by
          have hh := nr.out v
          unfold GroupPost at hh
          rwa [show okG (strOf p).data.toList = false from h1, grpV, show okG (strOf p).data.toList = false from h1] at hh)
        have HN := Lib.hid (HB.out i p hp h1)
        clear hp h1 hpl
        go_wp2_with fail
        refine (nc.out _).mono ?_
        rintro e w2 ⟨rfl, b2⟩
        have hrow2 := row_on b2 (row_lt hrow.out) hrow.out
        obtain ⟨⟨c0, c1, c2, c3, c4⟩, f0, f1, f2, f3, f4⟩ := row5 hrow2
        have B3 := bthen B2.out b2
        go_wp2
        (try simp only [Exit.inBlock, Exit.then])
        refine bodyPost_ret (v := .tuple #[.agg #[.int .i64 0, .int .i64 0, .int .i64 0, .int .i64 0, .int .i64 0], .bool false]) ?_ rfl (readOut_no HN.out (by go_grown))
        refine res_cell_tmp Tryd.results40 _ _ _ w.heap.size _ ?_ (run_loadVar_row _ _ 25 25 _ (0, 0) _ (set5 _ _ _ _ _ hrow2) Tryd.underlying25 rfl info_addr)
        rfl
      · obtain ⟨V, hV⟩ : ∃ V, V = valG p := ⟨_, rfl⟩
        have nc := Lib.hid (show ∀ v : World, Calls Tryd.prog 68 #[.string (strOf p)] v fun e w' => e = .returned (.tuple #[.int .i64 (V : Int), .bool true]) ∧ Below v.heap.size v w' from fun v => by
          have hh := nr.out v
          unfold GroupPost at hh
          rwa [show okG (strOf p).data.toList = true from h1, grpV, show okG (strOf p).data.toList = true from h1, if_pos rfl, show valG (strOf p).data.toList = V from hV.symm] at hh)
        have E := Lib.hid (show six (ps.take (i + 1)) = six (ps.take i) ++ put16 (V : Int) by
          rw [List.getElem?_eq_getElem hil] at hp
          rw [take_snoc ps i hil, six, List.map_append, List.flatMap_append, Option.some.inj hp, hV]
          simp [six, put16N])
        have ha2 := Lib.hid (show ∀ q ∈ ps.take (i + 1), okG q = true by
          intro q hq
          rw [take_snoc ps i hil] at hq
          rcases List.mem_append.1 hq with h | h
          · exact ha.out q h
          · rw [List.mem_singleton.1 h]
            rw [List.getElem?_eq_getElem hil] at hp
            rw [Option.some.inj hp]
            exact h1)
        have hlen := Lib.hid (show (six (ps.take i)).length ≤ 16 by rw [six_length, List.length_take]; omega)
        obtain ⟨bs, hbs⟩ : ∃ bs, bs = six (ps.take i) := ⟨_, rfl⟩
        rw [← hbs] at ho E hlen
        clear hp h1 hpl hV hbs
        go_wp2_with fail
        refine (nc.out _).mono ?_
        rintro e w2 ⟨rfl, b2⟩
        have hlo := fun u (hu : u5.ownBlock = some u) => (ho.out.lt u hu).1
        have HLO := Lib.hid hlo
        have o2 := Lib.hid (own_below ho.out b2)
        have B3 := Lib.hid (hb.out.trans (b2.mono hb.out.size))
        have hz := hb.out.size
        have hz2 := b2.size
        clear hlo b2
        go_wp2_with fail
        refine (implPut16 (V : Int) _).mono ?_
        rintro e w3 ⟨rfl, o3, b3⟩
        have o4 := Lib.hid (own_below o2.out b3)
        have r4 := Lib.hid (RB.of_own o3)
        have B4 := Lib.hid (B3.out.trans (b3.mono B3.out.size))
        have hz3 := b3.size
        clear o3 b3
        go_wp2_with (at_builtin; refine wpList_append_b rfl (.tmp 30) (.tmp 32) rfl w1.heap.size u5 bs rfl o4.out _ (some ⟨w2.heap.size, 0, none⟩) 2 2 (put16 (V : Int)) rfl rfl r4.out (by have := hlen.out; simp [put16]; omega) (by omega) ?_; intro v5 w5 o5 g5 _)
        have R1 := Lib.hid (show w5.ownsRow w1.heap.size 5 1 v5 (six (ps.take (i + 1))).length (cellsOf (six (ps.take (i + 1)))) by rw [E.out]; exact o5)
        have R2 := Lib.hid (show Below w1.heap.size w1 w5 from B4.out.grown g5 (by omega) HLO.out)
        go_wp2
        go_roundw
        case rel => exact ⟨i + 1, by omega, by go_num, ha2, R1, R2⟩
        case measure => simp [intOf]; omega
    · obtain rfl : i = 8 := by omega
      have e8 : ps.take 8 = ps := List.take_of_length_le (by rw [H8.out]; exact Nat.le_refl _)
      have HY := Lib.hid (HA.out (by have := ha.out; rwa [e8] at this))
      have o8 := ho.out
      rw [e8] at o8
      obtain ⟨bs, hbs⟩ : ∃ bs, bs = six ps := ⟨_, rfl⟩
      have hbl : bs.length = 16 := by rw [hbs, six_length, H8.out]
      rw [← hbs, hbl] at o8
      rw [← hbs] at HY
      obtain ⟨A, k, rfl⟩ := own_form o8
      have ao := Lib.hid (show Calls Tryd.prog 25 #[.slice A 16 k] wr fun e w' => e = .returned (.tuple #[.agg #[.int .i64 (ofA bs).k, .int .i64 (ofA bs).a, .int .i64 (ofA bs).b, .int .i64 (ofA bs).c, .int .i64 (ofA bs).d], .bool true]) ∧ Below wr.heap.size wr w' by
        have hh := implAddrOf A 16 k bs wr (RB.of_own o8) hbl (by omega)
        unfold OfOut at hh
        rwa [show okA bs = true by simp [okA, hbl]] at hh)
      have hrow := Lib.hid (row_on hb.out hz1 NR.out)
      have B2 := Lib.hid (B1.out.trans (hb.out.mono B1.out.size))
      obtain ⟨y, hy⟩ : ∃ y, y = ofA bs := ⟨_, rfl⟩
      rw [← hy] at ao HY
      clear e8 o8 hbs hbl hy
      go_wp2_with fail
      refine ao.out.mono ?_
      rintro e w2 ⟨rfl, b2⟩
      have hrow2 := row_on b2 (row_lt hrow.out) hrow.out
      obtain ⟨⟨c0, c1, c2, c3, c4⟩, f0, f1, f2, f3, f4⟩ := row5 hrow2
      have B3 := bthen B2.out b2
      go_wp2
      (try simp only [Exit.inBlock, Exit.then])
      refine bodyPost_ret (v := .tuple #[.agg #[.int .i64 y.k, .int .i64 y.a, .int .i64 y.b, .int .i64 y.c, .int .i64 y.d], .bool true]) ?_ rfl (readOut_yes HY.out (by go_grown))
      refine res_cell_tmp Tryd.results40 _ _ _ w.heap.size _ ?_ (run_loadVar_row _ _ 25 25 _ (0, 0) _ (set5 _ _ _ _ _ hrow2) Tryd.underlying25 rfl info_addr)
      rfl

set_option maxRecDepth 100000 in
theorem implSixRead (s : ByteArray) (m : Int) (w : World) (hs : s.size ≤ 1048576) (hm : w.cell? ⟨1, 0, none⟩ = some (.int .i64 m)) : Calls Tryd.prog 40 #[.string s] w (ReadOut ((rd6 s.data.toList).map ofA) w) := by
  by_cases h8 : (splitC 58 s.data.toList).length = 8
  · exact implSix_go s m w hs hm h8
  · exact implSix_len s m w hs hm h8

set_option maxRecDepth 100000 in
set_option maxHeartbeats 1000000 in
theorem implAddrRead (s : ByteArray) (m : Int) (w : World) (hs : s.size ≤ 1048576) (hm : w.cell? ⟨1, 0, none⟩ = some (.int .i64 m)) : Calls Tryd.prog 13 #[.string s] w (ReadOut (rdA s.data.toList) w) := by
  have HM := Lib.hid (fun o : Obj => cell_on (Joins.below_alloc1 w o) hm)
  have CC := Lib.hid (containsCall 58 s)
  by_cases h : (58 : UInt8) ∈ s.data.toList
  · have e : rdA s.data.toList = (rd6 s.data.toList).map ofA := if_pos h
    rw [e]
    have h2 : decide ((58 : UInt8) ∈ s.data.toList) = true := decide_eq_true h
    rw [h2] at CC
    have six := Lib.hid (fun (v : World) (hv : v.cell? ⟨1, 0, none⟩ = some (.int .i64 m)) => implSixRead s m v hs hv)
    obtain ⟨R, hR⟩ : ∃ R, R = (rd6 s.data.toList).map ofA := ⟨_, rfl⟩
    rw [← hR] at six ⊢
    clear hR h h2 e hm
    go_enter Tryd.func13, Tryd.ntmps13
    go_wp2_with fail
    refine (CC.out _).mono ?_
    rintro e w1 ⟨rfl, rfl⟩
    go_wp2_with fail
    refine (six.out _ (HM.out _)).mono ?_
    rintro e w2 ⟨rfl, b2⟩
    obtain ⟨⟨c0, c1, c2, c3, c4⟩, f0, f1, f2, f3, f4⟩ := row5 (new_row b2)
    have B3 := bthen (Joins.below_alloc1 w _) b2
    have N3 := Lib.hid (new_row b2)
    clear b2
    go_wp2
    (try simp only [Exit.inBlock, Exit.then])
    refine bodyPost_ret (v := .tuple #[.agg #[.int .i64 (R.getD Ad.zero).k, .int .i64 (R.getD Ad.zero).a, .int .i64 (R.getD Ad.zero).b, .int .i64 (R.getD Ad.zero).c, .int .i64 (R.getD Ad.zero).d], .bool R.isSome]) ?_ rfl ⟨rfl, by go_grown⟩
    refine res_cell_tmp Tryd.results13 _ _ _ w.heap.size _ ?_ (run_loadVar_row _ _ 25 25 _ (0, 0) _ (set5 _ _ _ _ _ N3.out) Tryd.underlying25 rfl info_addr)
    rfl
  · have e : rdA s.data.toList = (rd4 s.data.toList).map ofA := if_neg h
    rw [e]
    have h2 : decide ((58 : UInt8) ∈ s.data.toList) = false := decide_eq_false h
    rw [h2] at CC
    have four := Lib.hid (fun (v : World) (hv : v.cell? ⟨1, 0, none⟩ = some (.int .i64 m)) => implFourRead s m v hs hv)
    obtain ⟨R, hR⟩ : ∃ R, R = (rd4 s.data.toList).map ofA := ⟨_, rfl⟩
    rw [← hR] at four ⊢
    clear hR h h2 e hm
    go_enter Tryd.func13, Tryd.ntmps13
    go_wp2_with fail
    refine (CC.out _).mono ?_
    rintro e w1 ⟨rfl, rfl⟩
    go_wp2_with fail
    refine (four.out _ (HM.out _)).mono ?_
    rintro e w2 ⟨rfl, b2⟩
    obtain ⟨⟨c0, c1, c2, c3, c4⟩, f0, f1, f2, f3, f4⟩ := row5 (new_row b2)
    have B3 := bthen (Joins.below_alloc1 w _) b2
    have N3 := Lib.hid (new_row b2)
    clear b2
    go_wp2
    (try simp only [Exit.inBlock, Exit.then])
    refine bodyPost_ret (v := .tuple #[.agg #[.int .i64 (R.getD Ad.zero).k, .int .i64 (R.getD Ad.zero).a, .int .i64 (R.getD Ad.zero).b, .int .i64 (R.getD Ad.zero).c, .int .i64 (R.getD Ad.zero).d], .bool R.isSome]) ?_ rfl ⟨rfl, by go_grown⟩
    refine res_cell_tmp Tryd.results13 _ _ _ w.heap.size _ ?_ (run_loadVar_row _ _ 25 25 _ (0, 0) _ (set5 _ _ _ _ _ N3.out) Tryd.underlying25 rfl info_addr)
    rfl
end Go.Proofs.YtckakpcjbndijabDoor
