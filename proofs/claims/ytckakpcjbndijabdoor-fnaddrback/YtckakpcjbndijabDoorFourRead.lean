/-
  Reading an address of kind 4, in the program.
-/
import Derived.Test.YtckakpcjbndijabDoorSplitImpl
import Derived.Test.YtckakpcjbndijabDoorAddrOf2
import Derived.Test.YtckakpcjbndijabDoorNumRead
namespace Go.Proofs.YtckakpcjbndijabDoor
open Go.RowKit

set_option maxRecDepth 100000 in
theorem rd4_len {s : List UInt8} (h : ¬ (splitC 46 s).length = 4) : (rd4 s).map ofA = none := by simp [rd4, h]
set_option maxRecDepth 100000 in
theorem rd4_bad {s p : List UInt8} {i : Nat} (hp : (splitC 46 s)[i]? = some p) (h : part4 p = false) : (rd4 s).map ofA = none := by
  have : (splitC 46 s).all part4 = false := by
    rw [List.all_eq_false]
    exact ⟨p, List.mem_of_getElem? hp, by simp [h]⟩
  simp [rd4, this]
set_option maxRecDepth 100000 in
theorem rd4_all {s : List UInt8} (h : (splitC 46 s).length = 4) (ha : ∀ p ∈ splitC 46 s, part4 p = true) : (rd4 s).map ofA = some (ofA ((splitC 46 s).map byte4)) := by
  have : (splitC 46 s).all part4 = true := List.all_eq_true.2 ha
  simp [rd4, this, h]
set_option maxRecDepth 100000 in
theorem part4_cases (p : List UInt8) : (okNum p = false ∧ part4 p = false) ∨ (∃ V : Nat, okNum p = true ∧ val p = V ∧ 255 < V ∧ V ≤ 1000000000000 ∧ part4 p = false) ∨ (okNum p = true ∧ part4 p = true ∧ val p = (byte4 p).toNat) := by
  cases h : okNum p
  · exact .inl ⟨rfl, by simp [part4, h]⟩
  · right
    by_cases hv : val p ≤ 255
    · exact .inr ⟨rfl, by simp [part4, h, hv], by simp [byte4]; omega⟩
    · refine .inl ⟨val p, rfl, rfl, by omega, ?_, by simp [part4, h, hv]⟩
      simp only [okNum, Bool.and_eq_true, decide_eq_true_eq] at h
      have h1 := val_lt p h.1.2 h.1.1.2
      omega

set_option maxRecDepth 100000 in
set_option maxHeartbeats 1000000 in
theorem implFour_len (s : ByteArray) (m : Int) (w : World) (hs : s.size ≤ 1048576) (hm : w.cell? ⟨1, 0, none⟩ = some (.int .i64 m)) (h4 : ¬ (splitC 46 s.data.toList).length = 4) :
    Calls Tryd.prog 41 #[.string s] w (ReadOut ((rd4 s.data.toList).map ofA) w) := by
  have HN := Lib.hid (rd4_len h4)
  obtain ⟨ps, hps⟩ : ∃ ps, ps = splitC 46 s.data.toList := ⟨_, rfl⟩
  obtain ⟨N, hN⟩ : ∃ N, ps.length = N := ⟨_, rfl⟩
  have h5 : ((N : Int) == 4) = false := by rw [hps] at hN; simp; omega
  have h6 : ((N : Int) != 4) = true := by rw [hps] at hN; simp; omega
  have sp : ∀ v : World, v.cell? ⟨1, 0, none⟩ = some (.int .i64 m) → Calls Tryd.prog 67 #[.string s, .string ⟨#[46]⟩] v fun e w' => ∃ g, e = .returned (.slice (some ⟨g, 0, none⟩) N N) ∧ (∀ (j : Nat) (p : List UInt8), ps[j]? = some p → w'.cell? ⟨g, j, none⟩ = some (.string (strOf p))) ∧ Below v.heap.size v w' := by
    intro v hv
    have hh := splitCall 46 s m v hs hv
    unfold SplitOut at hh
    rwa [← hps, hN] at hh
  have SP := Lib.hid sp
  have HM := Lib.hid (fun o : Obj => cell_on (Joins.below_alloc1 w o) hm)
  clear h4 hps hN sp hm
  go_enter Tryd.func41, Tryd.ntmps41
  go_wp2_with fail
  refine (SP.out _ (HM.out _)).mono ?_
  rintro e w1 ⟨g, rfl, _, b1⟩
  obtain ⟨⟨c0, c1, c2, c3, c4⟩, f0, f1, f2, f3, f4⟩ := row5 (new_row b1)
  go_wp2
  (try simp only [Exit.inBlock, Exit.then])
  refine bodyPost_ret (v := .tuple #[.agg #[.int .i64 0, .int .i64 0, .int .i64 0, .int .i64 0, .int .i64 0], .bool false]) ?_ rfl (readOut_no HN.out (by have := bthen (Joins.below_alloc1 w _) b1; go_grown))
  refine res_cell_tmp Tryd.results41 _ _ _ w.heap.size _ ?_ (run_loadVar_row _ _ 25 25 _ (0, 0) _ (set5 _ _ _ _ _ (new_row b1)) Tryd.underlying25 rfl info_addr)
  rfl

set_option maxRecDepth 100000 in
set_option maxHeartbeats 2000000 in
theorem implFour_go (s : ByteArray) (m : Int) (w : World) (hs : s.size ≤ 1048576) (hm : w.cell? ⟨1, 0, none⟩ = some (.int .i64 m)) (h4 : (splitC 46 s.data.toList).length = 4) :
    Calls Tryd.prog 41 #[.string s] w (ReadOut ((rd4 s.data.toList).map ofA) w) := by
  have HB := Lib.hid (fun (i : Nat) (p : List UInt8) (hp : (splitC 46 s.data.toList)[i]? = some p) (h : part4 p = false) => rd4_bad hp h)
  have HA := Lib.hid (fun (ha : ∀ p ∈ splitC 46 s.data.toList, part4 p = true) => rd4_all h4 ha)
  have hsz := fun (p : List UInt8) (hp : p ∈ splitC 46 s.data.toList) => split_size 46 s.data.toList p hp
  obtain ⟨ps, hps⟩ : ∃ ps, ps = splitC 46 s.data.toList := ⟨_, rfl⟩
  have sp : ∀ v : World, v.cell? ⟨1, 0, none⟩ = some (.int .i64 m) → Calls Tryd.prog 67 #[.string s, .string ⟨#[46]⟩] v fun e w' => ∃ g, e = .returned (.slice (some ⟨g, 0, none⟩) 4 4) ∧ (∀ (j : Nat) (p : List UInt8), ps[j]? = some p → w'.cell? ⟨g, j, none⟩ = some (.string (strOf p))) ∧ Below v.heap.size v w' := by
    intro v hv
    have hh := splitCall 46 s m v hs hv
    unfold SplitOut at hh
    rwa [h4, ← hps] at hh
  rw [← hps] at HB HA hsz h4
  have HSZ := Lib.hid hsz
  have H4 := Lib.hid h4
  have HS := Lib.hid (show s.data.toList.length ≤ 1048576 from hs)
  obtain ⟨R, hR⟩ : ∃ R, R = (rd4 s.data.toList).map ofA := ⟨_, rfl⟩
  rw [← hR] at HB HA ⊢
  have SP := Lib.hid sp
  have HM := Lib.hid (fun o : Obj => cell_on (Joins.below_alloc1 w o) hm)
  clear h4 hps sp hm hsz hR
  go_enter Tryd.func41, Tryd.ntmps41
  go_wp2_with fail
  refine (SP.out _ (HM.out _)).mono ?_
  rintro e w1 ⟨g, rfl, hcs, b1⟩
  have HC := Lib.hid hcs
  have NR := Lib.hid (new_row b1)
  have hz1 : w.heap.size < w1.heap.size := by have := b1.size; simp at this; omega
  have B1 := Lib.hid (bthen (Joins.below_alloc1 w _) b1)
  clear hcs b1
  go_wp2_with fail
  go_loopw [5, 18] (fun v q wr => ∃ i : Nat, i ≤ 4 ∧ q = .int .i64 i ∧ Hid (∀ p ∈ ps.take i, part4 p = true) ∧ Hid (wr.ownsRow w1.heap.size 5 1 v ((ps.take i).map byte4).length (cellsOf ((ps.take i).map byte4))) ∧ Hid (Below w1.heap.size w1 wr)) (fun _ q _ => 4 - (intOf q).toNat)
  case atStart => exact ⟨0, Nat.zero_le _, rfl, Lib.hid (by simp), Lib.hid ⟨rfl, .inl ⟨rfl, rfl⟩⟩, Lib.hid (Below.refl _ _)⟩
  case round =>
    obtain ⟨i, hi, rfl, ha, ho, hb⟩ := hrel
    by_cases hlt : i < 4
    · have hltI : (i : Int) < 4 := by omega
      have hil : i < ps.length := by rw [H4.out]; exact hlt
      obtain ⟨p, hp⟩ : ∃ p, ps[i]? = some p := ⟨_, List.getElem?_eq_getElem hil⟩
      have hc : wr.cell? ⟨g, i, none⟩ = some (.string (strOf p)) := cell_on hb.out (HC.out i p hp)
      have hpl : (strOf p).size ≤ 1048576 := Nat.le_trans (HSZ.out p (List.mem_of_getElem? hp)) HS.out
      have nr := Lib.hid (fun v : World => implNumRead (strOf p) v hpl)
      have HP := Lib.hid hp
      have hrow := Lib.hid (row_on hb.out hz1 NR.out)
      obtain ⟨⟨c0, c1, c2, c3, c4⟩, f0, f1, f2, f3, f4⟩ := row5 hrow.out
      have B2 := Lib.hid (B1.out.trans (hb.out.mono B1.out.size))
      rcases part4_cases p with ⟨h1, h2⟩ | ⟨V, h1, h2, h3, h3b, h5⟩ | ⟨h1, h2, h3⟩
      · have nc := Lib.hid (show ∀ v : World, Calls Tryd.prog 46 #[.string (strOf p)] v fun e w' => e = .returned (.tuple #[.int .i64 0, .bool false]) ∧ Below v.heap.size v w' from fun v => by
          have hh := nr.out v
          unfold NumPost at hh
          rwa [show okNum (strOf p).data.toList = false from h1, numR, show okNum (strOf p).data.toList = false from h1] at hh)
        have HN := Lib.hid (HB.out i p hp h2)
        clear hp h1 h2 hpl
        go_wp2_with fail
        refine (nc.out _).mono ?_
        rintro e w2 ⟨rfl, b2⟩
        have hrow2 := row_on b2 (row_lt hrow.out) hrow.out
        obtain ⟨⟨c0, c1, c2, c3, c4⟩, f0, f1, f2, f3, f4⟩ := row5 hrow2
        have B3 := bthen B2.out b2
        go_wp2
        (try simp only [Exit.inBlock, Exit.then])
        refine bodyPost_ret (v := .tuple #[.agg #[.int .i64 0, .int .i64 0, .int .i64 0, .int .i64 0, .int .i64 0], .bool false]) ?_ rfl (readOut_no HN.out (by go_grown))
        refine res_cell_tmp Tryd.results41 _ _ _ w.heap.size _ ?_ (run_loadVar_row _ _ 25 25 _ (0, 0) _ (set5 _ _ _ _ _ hrow2) Tryd.underlying25 rfl info_addr)
        rfl
      · have nc := Lib.hid (show ∀ v : World, Calls Tryd.prog 46 #[.string (strOf p)] v fun e w' => e = .returned (.tuple #[.int .i64 (V : Int), .bool true]) ∧ Below v.heap.size v w' from fun v => by
          have hh := nr.out v
          unfold NumPost at hh
          rwa [show okNum (strOf p).data.toList = true from h1, numR, show okNum (strOf p).data.toList = true from h1, show val (strOf p).data.toList = V from h2] at hh)
        have HN := Lib.hid (HB.out i p hp h5)
        have h3I : (255 : Int) < (V : Int) := by omega
        clear hp h1 h2 h5 hpl
        go_wp2_with fail
        refine (nc.out _).mono ?_
        rintro e w2 ⟨rfl, b2⟩
        have hrow2 := row_on b2 (row_lt hrow.out) hrow.out
        obtain ⟨⟨c0, c1, c2, c3, c4⟩, f0, f1, f2, f3, f4⟩ := row5 hrow2
        have B3 := bthen B2.out b2
        go_wp2
        (try simp only [Exit.inBlock, Exit.then])
        refine bodyPost_ret (v := .tuple #[.agg #[.int .i64 0, .int .i64 0, .int .i64 0, .int .i64 0, .int .i64 0], .bool false]) ?_ rfl (readOut_no HN.out (by go_grown))
        refine res_cell_tmp Tryd.results41 _ _ _ w.heap.size _ ?_ (run_loadVar_row _ _ 25 25 _ (0, 0) _ (set5 _ _ _ _ _ hrow2) Tryd.underlying25 rfl info_addr)
        rfl
      · obtain ⟨b, hb0⟩ : ∃ b, b = byte4 p := ⟨_, rfl⟩
        rw [← hb0] at h3
        have nc := Lib.hid (show ∀ v : World, Calls Tryd.prog 46 #[.string (strOf p)] v fun e w' => e = .returned (.tuple #[.int .i64 (b.toNat : Int), .bool true]) ∧ Below v.heap.size v w' from fun v => by
          have hh := nr.out v
          unfold NumPost at hh
          rwa [show okNum (strOf p).data.toList = true from h1, numR, show okNum (strOf p).data.toList = true from h1, show val (strOf p).data.toList = b.toNat from h3] at hh)
        have hb256 := UInt8.toNat_lt b
        have hle : ¬ (255 : Int) < (b.toNat : Int) := by omega
        have E := Lib.hid (show (ps.take (i + 1)).map byte4 = (ps.take i).map byte4 ++ [b] by
          rw [take_snoc ps i hil, List.map_append, List.map_singleton, hb0]
          rw [List.getElem?_eq_getElem hil] at hp
          rw [Option.some.inj hp])
        have ha2 := Lib.hid (show ∀ q ∈ ps.take (i + 1), part4 q = true by
          intro q hq
          rw [take_snoc ps i hil] at hq
          rcases List.mem_append.1 hq with h | h
          · exact ha.out q h
          · rw [List.mem_singleton.1 h]
            rw [List.getElem?_eq_getElem hil] at hp
            rw [Option.some.inj hp]
            exact h2)
        have hlen := Lib.hid (show ((ps.take i).map byte4).length ≤ 4 by rw [List.length_map, List.length_take]; omega)
        obtain ⟨bs, hbs⟩ : ∃ bs, bs = (ps.take i).map byte4 := ⟨_, rfl⟩
        rw [← hbs] at ho E hlen
        clear hp h1 h2 h3 hpl hb0 hbs c0 c1 c2 c3 c4 f0 f1 f2 f3 f4
        go_wp2_with fail
        refine (nc.out _).mono ?_
        rintro e w2 ⟨rfl, b2⟩
        have hlo := fun u (hu : u5.ownBlock = some u) => (ho.out.lt u hu).1
        have HLO := Lib.hid hlo
        have o2 := Lib.hid (own_below (own_below ho.out b2) (Joins.below_alloc1 w2 (.cells #[.int .u8 (b.toNat : Int)] 5)))
        have B3 := Lib.hid (hb.out.trans (b2.mono hb.out.size))
        have hz := hb.out.size
        have hz2 := b2.size
        clear hlo
        go_wp2_with (at_builtin; refine wpList_append_b rfl (.tmp 34) (.tmp 37) rfl w1.heap.size u5 bs rfl o2.out _ (some ⟨w2.heap.size, 0, none⟩) 1 1 [b] rfl rfl (RB.new w2 5 [b]) (by have := hlen.out; simp; omega) (by simp; omega) ?_; intro v3 w3 o3 g3 _)
        have R1 := Lib.hid (show w3.ownsRow w1.heap.size 5 1 v3 ((ps.take (i + 1)).map byte4).length (cellsOf ((ps.take (i + 1)).map byte4)) by rw [E.out]; exact o3)
        have R2 := Lib.hid (show Below w1.heap.size w1 w3 from (B3.out.alloc (by omega) (.cells #[.int .u8 (b.toNat : Int)] 5)).grown g3 (by simp; omega) HLO.out)
        go_wp2
        go_roundw
        case rel => exact ⟨i + 1, by omega, by go_num, ha2, R1, R2⟩
        case measure => simp [intOf]; omega
    · obtain rfl : i = 4 := by omega
      have e4 : ps.take 4 = ps := List.take_of_length_le (by rw [H4.out]; exact Nat.le_refl _)
      have HY := Lib.hid (HA.out (by have := ha.out; rwa [e4] at this))
      have o4 := ho.out
      rw [e4] at o4
      obtain ⟨bs, hbs⟩ : ∃ bs, bs = ps.map byte4 := ⟨_, rfl⟩
      have hbl : bs.length = 4 := by rw [hbs, List.length_map, H4.out]
      rw [← hbs, hbl] at o4
      rw [← hbs] at HY
      obtain ⟨A, k, rfl⟩ := own_form o4
      have ao := Lib.hid (show Calls Tryd.prog 25 #[.slice A 4 k] wr fun e w' => e = .returned (.tuple #[.agg #[.int .i64 (ofA bs).k, .int .i64 (ofA bs).a, .int .i64 (ofA bs).b, .int .i64 (ofA bs).c, .int .i64 (ofA bs).d], .bool true]) ∧ Below wr.heap.size wr w' by
        have hh := implAddrOf A 4 k bs wr (RB.of_own o4) hbl (by omega)
        unfold OfOut at hh
        rwa [show okA bs = true by simp [okA, hbl]] at hh)
      have hrow := Lib.hid (row_on hb.out hz1 NR.out)
      have B2 := Lib.hid (B1.out.trans (hb.out.mono B1.out.size))
      obtain ⟨y, hy⟩ : ∃ y, y = ofA bs := ⟨_, rfl⟩
      rw [← hy] at ao HY
      clear e4 o4 hbs hbl hy
      go_wp2_with fail
      refine ao.out.mono ?_
      rintro e w2 ⟨rfl, b2⟩
      have hrow2 := row_on b2 (row_lt hrow.out) hrow.out
      obtain ⟨⟨c0, c1, c2, c3, c4⟩, f0, f1, f2, f3, f4⟩ := row5 hrow2
      have B3 := bthen B2.out b2
      go_wp2
      (try simp only [Exit.inBlock, Exit.then])
      refine bodyPost_ret (v := .tuple #[.agg #[.int .i64 y.k, .int .i64 y.a, .int .i64 y.b, .int .i64 y.c, .int .i64 y.d], .bool true]) ?_ rfl (readOut_yes HY.out (by go_grown))
      refine res_cell_tmp Tryd.results41 _ _ _ w.heap.size _ ?_ (run_loadVar_row _ _ 25 25 _ (0, 0) _ (set5 _ _ _ _ _ hrow2) Tryd.underlying25 rfl info_addr)
      rfl

set_option maxRecDepth 100000 in
theorem implFourRead (s : ByteArray) (m : Int) (w : World) (hs : s.size ≤ 1048576) (hm : w.cell? ⟨1, 0, none⟩ = some (.int .i64 m)) : Calls Tryd.prog 41 #[.string s] w (ReadOut ((rd4 s.data.toList).map ofA) w) := by
  by_cases h4 : (splitC 46 s.data.toList).length = 4
  · exact implFour_go s m w hs hm h4
  · exact implFour_len s m w hs hm h4
end Go.Proofs.YtckakpcjbndijabDoor
