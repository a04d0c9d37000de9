/-
  AddrRead in the model: a text of eight parts; the whole.
-/
import Derived.Test.YtckakpcjbndijabDoorReadSpec4
namespace Go.Proofs.YtckakpcjbndijabDoor
open Go.RowKit

def sixV (ps : List (List UInt8)) : List UInt8 := (ps.map natV).flatMap put16N
set_option maxRecDepth 100000 in
theorem sixV_length (ps : List (List UInt8)) : (sixV ps).length = 2 * ps.length := by rw [sixV, put16_len, List.length_map]

set_option maxRecDepth 100000 in
set_option maxHeartbeats 4000000 in
theorem specRead_six (s : ByteArray) (w : World) (hs : s.size ≤ 39) (h4 : ¬ (splitC 46 s.data.toList).length = 4) (h8 : (splitC 58 s.data.toList).length = 8) : Calls Tryd.prog 12 #[.string s] w (ReadOut (rdA s.data.toList) w) := by
  have HB := Lib.hid (fun (i : Nat) (p : List UInt8) (hp : (splitC 58 s.data.toList)[i]? = some p) (h : vB 16 p < 0) => read_bad6 h8 hp h)
  have HE := Lib.hid (read_end6 h8)
  have hsz := fun (p : List UInt8) (hp : p ∈ splitC 58 s.data.toList) => split_size 58 s.data.toList p hp
  obtain ⟨ps, hps⟩ : ∃ ps, splitC 58 s.data.toList = ps := ⟨_, rfl⟩
  obtain ⟨qs, hqs⟩ : ∃ qs, splitC 46 s.data.toList = qs := ⟨_, rfl⟩
  obtain ⟨M, hM⟩ : ∃ M, qs.length = M := ⟨_, rfl⟩
  rw [hps] at HB HE hsz h8
  rw [hqs, hM] at h4
  have eM : ((M : Int) == 4) = false := by simp; omega
  have G4 := Lib.hid (groupC 46 s hs qs M 46 hqs hM rfl)
  have G6 := Lib.hid (groupC 58 s hs ps 8 58 hps h8 rfl)
  have HSZ := Lib.hid (show ∀ p ∈ ps, p.length ≤ 1048576 from fun p hp => Nat.le_trans (hsz p hp) (show s.size ≤ 1048576 by omega))
  have H8 := Lib.hid h8
  obtain ⟨R, hR⟩ : ∃ R, R = rdA s.data.toList := ⟨_, rfl⟩
  rw [← hR] at HB HE ⊢
  have hI : ¬ (39 : Int) < (s.size : Int) := by omega
  clear h4 h8 hps hqs hM hsz hR
  go_enter Tryd.func12, Tryd.ntmps12
  go_wp2_with fail
  refine (G4.out _).mono ?_
  rintro e w1 ⟨g4, k4, rfl, _, _, b1⟩
  go_wp2_with fail
  refine (G6.out _).mono ?_
  rintro e w2 ⟨g6, k6, rfl, hg6, hc6, b2⟩
  have q1 := row_on b1 (g := w.heap.size) (by simp; omega) (heap_alloc2_old w _ _)
  have NR := Lib.hid (row_on b2 (row_lt q1) q1)
  have B2 := Lib.hid (bthen (bthen (Joins.below_alloc2 w _ _) b1) b2)
  have O0 := Lib.hid (own_below (own_below (World.ownsRow_lit (e := 5) (size := 1) (base := w.heap.size + 1) (w.alloc (.cells #[.int .i64 0, .int .i64 0, .int .i64 0, .int .i64 0, .int .i64 0] 25)) #[] 0 (by simp) (Nat.zero_le _) rfl) b1) b2)
  have HC := Lib.hid (show ∀ (j : Nat) (p : List UInt8), ps[j]? = some p → w2.cell? ⟨g6, j, none⟩ = some (.string (strOf p)) from hc6)
  have hgl : w.heap.size + 1 < g6 := by have := b1.size; simp at this; omega
  have hgh : g6 < w2.heap.size := by
    obtain ⟨p, hp⟩ : ∃ p, ps[0]? = some p := ⟨_, List.getElem?_eq_getElem (by rw [H8.out]; omega)⟩
    exact World.block_lt_of_cell? _ _ (HC.out 0 p hp)
  have HGL := Lib.hid hgl
  have HGH := Lib.hid hgh
  rw [show (w.alloc (.cells #[.int .i64 0, .int .i64 0, .int .i64 0, .int .i64 0, .int .i64 0] 25)).heap.size = w.heap.size + 1 by simp] at O0
  clear hg6 hc6 b1 b2 q1 hgl hgh
  go_wp2_with fail
  go_loopw [4, 9] (fun v q wr => ∃ i : Nat, i ≤ 8 ∧ q = .int .i64 i ∧ Hid (wr.ownsRow (w.heap.size + 1) 5 1 v (sixV (ps.take i)).length (cellsOf (sixV (ps.take i)))) ∧
      Hid (∀ u, v.ownBlock = some u → u = w.heap.size + 1 ∨ w2.heap.size ≤ u) ∧ Hid (∀ (j : Nat) (p : List UInt8), ps[j]? = some p → wr.cell? ⟨g6, j, none⟩ = some (.string (strOf p))) ∧ Hid (Below (w.heap.size + 1) w2 wr)) (fun _ q _ => 8 - (intOf q).toNat)
  case atStart => exact ⟨0, Nat.zero_le _, rfl, O0, Lib.hid (fun u hu => .inl (by simpa [Value.ownBlock] using hu.symm)), HC, Lib.hid (Below.refl _ _)⟩
  case round =>
    obtain ⟨i, hi, rfl, ho, hob, hcs, hb⟩ := hrel
    by_cases hlt : i < 8
    · have hltI : (i : Int) < 8 := by omega
      have hil : i < ps.length := by rw [H8.out]; exact hlt
      obtain ⟨p, hp⟩ : ∃ p, ps[i]? = some p := ⟨_, List.getElem?_eq_getElem hil⟩
      have hc : wr.cell? ⟨g6, i, none⟩ = some (.string (strOf p)) := hcs.out i p hp
      have hpl := HSZ.out p (List.mem_of_getElem? hp)
      obtain ⟨V, hV⟩ : ∃ V, vB 16 p = V := ⟨_, rfl⟩
      have nc := Lib.hid (valC 16 p V 16 hpl (by omega) (by omega) hV rfl)
      have hrow := Lib.hid (row_on hb.out (Nat.lt_succ_self _) NR.out)
      have B3 := Lib.hid (B2.out.trans (hb.out.mono (Nat.le_succ _)))
      by_cases hV0 : V < 0
      · have HN := Lib.hid (HB.out i p hp (by rw [hV]; exact hV0))
        clear hp hpl hV
        go_wp2_with fail
        refine (nc.out _).mono ?_
        rintro e w3 ⟨rfl, b3⟩
        have hrow3 := row_on b3 (row_lt hrow.out) hrow.out
        obtain ⟨⟨c0, c1, c2, c3, c4⟩, f0, f1, f2, f3, f4⟩ := row5 hrow3
        have B4 := Lib.hid (bthen B3.out b3)
        go_wp2
        (try simp only [Exit.inBlock, Exit.then])
        refine bodyPost_ret (v := .tuple #[.agg #[.int .i64 0, .int .i64 0, .int .i64 0, .int .i64 0, .int .i64 0], .bool false]) ?_ rfl (readOut_no HN.out (below5 B4.out (Nat.le_refl _)))
        refine res_cell_tmp Tryd.results12 _ _ _ w.heap.size _ ?_ (run_loadVar_row _ _ 25 25 _ (0, 0) _ (set5 _ _ _ _ _ hrow3) Tryd.underlying25 rfl info_addr)
        rfl
      · obtain ⟨n, rfl⟩ : ∃ n : Nat, V = (n : Int) := ⟨V.toNat, by omega⟩
        have E := Lib.hid (show sixV (ps.take (i + 1)) = sixV (ps.take i) ++ put16 (n : Int) by
          rw [List.getElem?_eq_getElem hil] at hp
          rw [take_snoc ps i hil, sixV, List.map_append, List.flatMap_append, Option.some.inj hp]
          simp [sixV, put16N, natV, hV])
        have hlen := Lib.hid (show (sixV (ps.take i)).length ≤ 16 by rw [sixV_length, List.length_take]; omega)
        obtain ⟨bs, hbs⟩ : ∃ bs, bs = sixV (ps.take i) := ⟨_, rfl⟩
        rw [← hbs] at ho E hlen
        clear hp hpl hV hbs
        go_wp2_with fail
        refine (nc.out _).mono ?_
        rintro e w3 ⟨rfl, b3⟩
        have HLO := Lib.hid (fun u (hu : u4.ownBlock = some u) => (ho.out.lt u hu).1)
        have o3 := Lib.hid (own_below ho.out b3)
        have c3 := Lib.hid (show ∀ (j : Nat) (p : List UInt8), ps[j]? = some p → w3.cell? ⟨g6, j, none⟩ = some (.string (strOf p)) from fun j p hp => cell_on b3 (hcs.out j p hp))
        have hz := hb.out.size
        have hz2 := B2.out.size
        have hz3 := b3.size
        have hzz : w.heap.size + 1 ≤ w2.heap.size := by have := HGL.out; have := HGH.out; omega
        have B4 := Lib.hid (hb.out.trans (b3.mono (by omega)))
        clear b3 hc
        go_wp2_with fail
        refine (specPut16 (n : Int) _).mono ?_
        rintro e w4 ⟨rfl, o4, b4⟩
        have o5 := Lib.hid (own_below o3.out b4)
        have r5 := Lib.hid (RB.of_own o4)
        have c5 := Lib.hid (show ∀ (j : Nat) (p : List UInt8), ps[j]? = some p → w4.cell? ⟨g6, j, none⟩ = some (.string (strOf p)) from fun j p hp => cell_on b4 (c3.out j p hp))
        have hz4 := b4.size
        have B5 := Lib.hid (B4.out.trans (b4.mono (by omega)))
        clear o4 b4
        go_wp2_with (at_builtin; refine wpList_append_b rfl (.tmp 61) (.tmp 63) rfl (w.heap.size + 1) u4 bs rfl o5.out _ (some ⟨w3.heap.size, 0, none⟩) 2 2 (put16 (n : Int)) rfl rfl r5.out (by have := hlen.out; simp [put16]; omega) (by omega) ?_; intro v6 w6 o6 g6' at6)
        have R1 := Lib.hid (show w6.ownsRow (w.heap.size + 1) 5 1 v6 (sixV (ps.take (i + 1))).length (cellsOf (sixV (ps.take (i + 1)))) by rw [E.out]; exact o6)
        have R2 := Lib.hid (show Below (w.heap.size + 1) w2 w6 from B5.out.grown g6' (by omega) HLO.out)
        have R3 := Lib.hid (show ∀ u, v6.ownBlock = some u → u = w.heap.size + 1 ∨ w2.heap.size ≤ u from fun u hu => by
          rcases at6 with h | h
          · exact hob.out u (by rw [← h]; exact hu)
          · rw [h] at hu
            have := Option.some.inj hu
            omega)
        have R4 := Lib.hid (show ∀ (j : Nat) (p : List UInt8), ps[j]? = some p → w6.cell? ⟨g6, j, none⟩ = some (.string (strOf p)) from fun j p hp => g6'.cell (c5.out j p hp) (fun e => by
          have h1 := hob.out g6 e.symm
          have := HGL.out
          have := HGH.out
          omega))
        go_wp2
        go_roundw
        case rel => exact ⟨i + 1, by omega, by go_num, R1, R3, R4, R2⟩
        case measure => simp [intOf]; omega
    · obtain rfl : i = 8 := by omega
      have e4 : ps.take 8 = ps := List.take_of_length_le (by rw [H8.out]; exact Nat.le_refl _)
      have o4 := ho.out
      rw [e4] at o4
      obtain ⟨bs, hbs⟩ : ∃ bs, bs = sixV ps := ⟨_, rfl⟩
      have hbl : bs.length = 16 := by rw [hbs, sixV_length, H8.out]
      rw [← hbs, hbl] at o4
      have HY := HE
      rw [show (ps.map natV).flatMap put16N = bs from hbs.symm] at HY
      obtain ⟨A, k, rfl⟩ := own_form o4
      have ao := Lib.hid (show Calls Tryd.prog 38 #[.slice A 16 k] wr fun e w' => e = .returned (.tuple #[.agg #[.int .i64 (ofA bs).k, .int .i64 (ofA bs).a, .int .i64 (ofA bs).b, .int .i64 (ofA bs).c, .int .i64 (ofA bs).d], .bool true]) ∧ Below wr.heap.size wr w' by
        have hh := specAddrOf A 16 k bs wr (RB.of_own o4) hbl (by omega)
        unfold OfOut at hh
        rwa [show okA bs = true by simp [okA, hbl]] at hh)
      have hrow := Lib.hid (row_on hb.out (Nat.lt_succ_self _) NR.out)
      have B3 := Lib.hid (B2.out.trans (hb.out.mono (Nat.le_succ _)))
      obtain ⟨y, hy⟩ : ∃ y, y = ofA bs := ⟨_, rfl⟩
      rw [← hy] at ao HY
      obtain ⟨T, hT⟩ : ∃ T, T = y.text := ⟨_, rfl⟩
      have tx := Lib.hid (show ∀ v : World, Calls Tryd.prog 9 #[.agg #[.int .i64 y.k, .int .i64 y.a, .int .i64 y.b, .int .i64 y.c, .int .i64 y.d]] v fun e w' => e = .returned (.string (strOf T)) ∧ Below v.heap.size v w' from fun v => by
        rw [hT]
        exact specAddrText y v)
      rw [← hT] at HY
      clear e4 o4 hbs hbl hy hT
      go_wp2_with fail
      refine ao.out.mono ?_
      rintro e w5 ⟨rfl, b5⟩
      have q5 := row_on b5 (row_lt hrow.out) hrow.out
      have B5 := Lib.hid (bthen B3.out b5)
      have q6 := Lib.hid (row_on (Joins.below_alloc1 w5 (.cells #[.int .i64 y.k, .int .i64 y.a, .int .i64 y.b, .int .i64 y.c, .int .i64 y.d] 25)) (row_lt q5) q5)
      clear q5 b5
      go_wp2_with fail
      refine (tx.out _).mono ?_
      rintro e w6 ⟨rfl, b6⟩
      obtain ⟨d0, d1, d2, d3, d4⟩ := ad_box b6
      have q7 := Lib.hid (row_on b6 (row_lt q6.out) q6.out)
      obtain ⟨⟨c0, c1, c2, c3, c4⟩, f0, f1, f2, f3, f4⟩ := row5 q7.out
      have B7 := Lib.hid (bthen (bthen B5.out (Joins.below_alloc1 w5 _)) b6)
      clear b6
      by_cases ht : T = s.data.toList
      · have he : strOf T = s := by rw [ht]; exact strOf_toList s
        have HR := Lib.hid (show R = some y by rw [HY.out, if_pos ht])
        rw [he]
        clear ht he HY
        go_wp2
        (try simp only [Exit.inBlock, Exit.then])
        refine bodyPost_ret (v := .tuple #[.agg #[.int .i64 y.k, .int .i64 y.a, .int .i64 y.b, .int .i64 y.c, .int .i64 y.d], .bool true]) ?_ rfl (readOut_yes HR.out (below5 B7.out (Nat.le_refl _)))
        refine res_cell_tmp Tryd.results12 _ _ _ w.heap.size _ ?_ (run_loadVar_row _ _ 25 25 _ (0, 0) _ (set5 _ _ _ _ _ q7.out) Tryd.underlying25 rfl info_addr)
        rfl
      · have hne : (!(strOf T).toList == s.toList) = true := by
          simp only [Bool.not_eq_true', beq_eq_false_iff_ne, ne_eq]
          rw [ByteArray.toList_eq, ByteArray.toList_eq]
          exact ht
        have HR := Lib.hid (show R = none by rw [HY.out, if_neg ht])
        clear ht HY
        go_wp2
        (try simp only [Exit.inBlock, Exit.then])
        refine bodyPost_ret (v := .tuple #[.agg #[.int .i64 0, .int .i64 0, .int .i64 0, .int .i64 0, .int .i64 0], .bool false]) ?_ rfl (readOut_no HR.out (below5 B7.out (Nat.le_refl _)))
        refine res_cell_tmp Tryd.results12 _ _ _ w.heap.size _ ?_ (run_loadVar_row _ _ 25 25 _ (0, 0) _ (set5 _ _ _ _ _ q7.out) Tryd.underlying25 rfl info_addr)
        rfl

set_option maxRecDepth 100000 in
theorem specAddrRead (s : ByteArray) (w : World) (hs : s.size ≤ 1048576) : Calls Tryd.prog 12 #[.string s] w (ReadOut (rdA s.data.toList) w) := by
  by_cases h : s.size ≤ 39
  · by_cases h4 : (splitC 46 s.data.toList).length = 4
    · exact specRead_four s w h h4
    · by_cases h8 : (splitC 58 s.data.toList).length = 8
      · exact specRead_six s w h h4 h8
      · exact specRead_none s w h h4 h8
  · exact specRead_long s w hs (by omega)
end Go.Proofs.YtckakpcjbndijabDoor
