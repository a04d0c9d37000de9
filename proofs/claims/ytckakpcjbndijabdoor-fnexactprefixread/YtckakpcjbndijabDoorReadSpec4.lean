/-
  AddrRead in the model: a text of four parts.
-/
import Derived.Test.YtckakpcjbndijabDoorReadSpec
namespace Go.Proofs.YtckakpcjbndijabDoor
open Go.RowKit

set_option maxRecDepth 100000 in
theorem below5 {w a : World} {g : Nat} {v0 v1 v2 v3 v4 : Value} (h : Below w.heap.size w a) (hg : w.heap.size ≤ g) : Below w.heap.size w (((((a.setCell ⟨g, 0, none⟩ v0).setCell ⟨g, 1, none⟩ v1).setCell ⟨g, 2, none⟩ v2).setCell ⟨g, 3, none⟩ v3).setCell ⟨g, 4, none⟩ v4) :=
  ((((h.setCell (p := ⟨g, 0, none⟩) hg _).setCell (p := ⟨g, 1, none⟩) hg _).setCell (p := ⟨g, 2, none⟩) hg _).setCell (p := ⟨g, 3, none⟩) hg _).setCell (p := ⟨g, 4, none⟩) hg _
set_option maxRecDepth 100000 in
theorem valC (B : Nat) (p : List UInt8) (V C : Int) (hpl : p.length ≤ 1048576) (hB : B ≤ 16) (hB1 : 1 ≤ B) (hV : vB B p = V) (hC : (B : Int) = C) (v : World) : Calls Tryd.prog 36 #[.string (strOf p), .int .i64 C] v fun e w' => e = .returned (.int .i64 V) ∧ Below v.heap.size v w' := by
  subst hV hC
  exact specValue B (strOf p) v (by rw [strOf_size]; exact hpl) hB hB1

set_option maxRecDepth 100000 in
set_option maxHeartbeats 4000000 in
theorem specRead_four (s : ByteArray) (w : World) (hs : s.size ≤ 39) (h4 : (splitC 46 s.data.toList).length = 4) : Calls Tryd.prog 12 #[.string s] w (ReadOut (rdA s.data.toList) w) := by
  have HB := Lib.hid (fun (i : Nat) (p : List UInt8) (hp : (splitC 46 s.data.toList)[i]? = some p) (h : vB 10 p < 0 ∨ 255 < vB 10 p) => read_bad4 h4 hp h)
  have HE := Lib.hid (read_end4 h4)
  have H1 := Lib.hid (fun (h : ∀ p ∈ splitC 46 s.data.toList, 0 ≤ vB 10 p) => read_four_one h)
  have hsz := fun (p : List UInt8) (hp : p ∈ splitC 46 s.data.toList) => split_size 46 s.data.toList p hp
  obtain ⟨ps, hps⟩ : ∃ ps, splitC 46 s.data.toList = ps := ⟨_, rfl⟩
  obtain ⟨qs, hqs⟩ : ∃ qs, splitC 58 s.data.toList = qs := ⟨_, rfl⟩
  obtain ⟨M, hM⟩ : ∃ M, qs.length = M := ⟨_, rfl⟩
  rw [hps] at HB HE H1 hsz h4
  rw [hqs, hM] at H1
  have G4 := Lib.hid (groupC 46 s hs ps 4 46 hps h4 rfl)
  have G6 := Lib.hid (groupC 58 s hs qs M 58 hqs hM rfl)
  have HSZ := Lib.hid (show ∀ p ∈ ps, p.length ≤ 1048576 from fun p hp => Nat.le_trans (hsz p hp) (show s.size ≤ 1048576 by omega))
  have H4 := Lib.hid h4
  obtain ⟨R, hR⟩ : ∃ R, R = rdA s.data.toList := ⟨_, rfl⟩
  rw [← hR] at HB HE ⊢
  have hI : ¬ (39 : Int) < (s.size : Int) := by omega
  clear h4 hps hqs hM hsz hR
  go_enter Tryd.func12, Tryd.ntmps12
  go_wp2_with fail
  refine (G4.out _).mono ?_
  rintro e w1 ⟨g4, k4, rfl, hg4, hc4, b1⟩
  go_wp2_with fail
  refine (G6.out _).mono ?_
  rintro e w2 ⟨g6, k6, rfl, _, _, b2⟩
  have q1 := row_on b1 (g := w.heap.size) (by simp; omega) (heap_alloc2_old w _ _)
  have NR := Lib.hid (row_on b2 (row_lt q1) q1)
  have B2 := Lib.hid (bthen (bthen (Joins.below_alloc2 w _ _) b1) b2)
  have O0 := Lib.hid (own_below (own_below (World.ownsRow_lit (e := 5) (size := 1) (base := w.heap.size + 1) (w.alloc (.cells #[.int .i64 0, .int .i64 0, .int .i64 0, .int .i64 0, .int .i64 0] 25)) #[] 0 (by simp) (Nat.zero_le _) rfl) b1) b2)
  have HC := Lib.hid (show ∀ (j : Nat) (p : List UInt8), ps[j]? = some p → w2.cell? ⟨g4, j, none⟩ = some (.string (strOf p)) from fun j p hp => cell_on b2 (hc4 j p hp))
  have hgl : w.heap.size + 1 < g4 := by simp at hg4; omega
  have hgh : g4 < w2.heap.size := by
    obtain ⟨p, hp⟩ : ∃ p, ps[0]? = some p := ⟨_, List.getElem?_eq_getElem (by rw [H4.out]; omega)⟩
    exact World.block_lt_of_cell? _ _ (HC.out 0 p hp)
  have HGL := Lib.hid hgl
  have HGH := Lib.hid hgh
  rw [show (w.alloc (.cells #[.int .i64 0, .int .i64 0, .int .i64 0, .int .i64 0, .int .i64 0] 25)).heap.size = w.heap.size + 1 by simp] at O0
  clear hg4 hc4 b1 b2 q1 hgl hgh
  go_wp2_with fail
  go_loopw [4, 7] (fun v q wr => ∃ i : Nat, i ≤ 4 ∧ q = .int .i64 i ∧ Hid (∀ p ∈ ps.take i, 0 ≤ vB 10 p ∧ vB 10 p ≤ 255) ∧ Hid (wr.ownsRow (w.heap.size + 1) 5 1 v ((ps.take i).map byteV).length (cellsOf ((ps.take i).map byteV))) ∧
      Hid (∀ u, v.ownBlock = some u → u = w.heap.size + 1 ∨ w2.heap.size ≤ u) ∧ Hid (∀ (j : Nat) (p : List UInt8), ps[j]? = some p → wr.cell? ⟨g4, j, none⟩ = some (.string (strOf p))) ∧ Hid (Below (w.heap.size + 1) w2 wr)) (fun _ q _ => 4 - (intOf q).toNat)
  case atStart => exact ⟨0, Nat.zero_le _, rfl, Lib.hid (by simp), O0, Lib.hid (fun u hu => .inl (by simpa [Value.ownBlock] using hu.symm)), HC, Lib.hid (Below.refl _ _)⟩
  case round =>
    obtain ⟨i, hi, rfl, ha, ho, hob, hcs, hb⟩ := hrel
    by_cases hlt : i < 4
    · have hltI : (i : Int) < 4 := by omega
      have hil : i < ps.length := by rw [H4.out]; exact hlt
      obtain ⟨p, hp⟩ : ∃ p, ps[i]? = some p := ⟨_, List.getElem?_eq_getElem hil⟩
      have hc : wr.cell? ⟨g4, i, none⟩ = some (.string (strOf p)) := hcs.out i p hp
      have hpl := HSZ.out p (List.mem_of_getElem? hp)
      obtain ⟨V, hV⟩ : ∃ V, vB 10 p = V := ⟨_, rfl⟩
      have nc := Lib.hid (valC 10 p V 10 hpl (by omega) (by omega) hV rfl)
      have hrow := Lib.hid (row_on hb.out (Nat.lt_succ_self _) NR.out)
      have B3 := Lib.hid (B2.out.trans (hb.out.mono (Nat.le_succ _)))
      by_cases hV0 : V < 0
      · have HN := Lib.hid (HB.out i p hp (.inl (by rw [hV]; exact hV0)))
        clear hp hpl hV
        go_wp2_with fail
        refine (nc.out _).mono ?_
        rintro e w3 ⟨rfl, b3⟩
        have hrow3 := row_on b3 (row_lt hrow.out) hrow.out
        obtain ⟨⟨c0, c1, c2, c3, c4⟩, f0, f1, f2, f3, f4⟩ := row5 hrow3
        have B4 := Lib.hid (bthen B3.out b3)
        go_wp2
        (try simp only [Exit.inBlock, Exit.then])
        refine bodyPost_ret (v := .tuple #[.agg #[.int .i64 0, .int .i64 0, .int .i64 0, .int .i64 0, .int .i64 0], .bool false]) ?_ rfl (readOut_no HN.out (below5 B4.out (Nat.le_refl _)))
        refine res_cell_tmp Tryd.results12 _ _ _ w.heap.size _ ?_ (run_loadVar_row _ _ 25 25 _ (0, 0) _ (set5 _ _ _ _ _ hrow3) Tryd.underlying25 rfl info_addr)
        rfl
      · by_cases hV1 : 255 < V
        · have HN := Lib.hid (HB.out i p hp (.inr (by rw [hV]; exact hV1)))
          have hVb : V ≤ 65536 := by
            have h5 : vB 10 p ≤ 65536 := by
              unfold vB
              split
              · rename_i hc
                have h6 := valB_lt 10 (by omega) p (fun b hb => by simpa using List.all_eq_true.1 hc.2.2 b hb)
                have h7 := Nat.pow_le_pow_right (show 0 < 16 by omega) hc.2.1
                omega
              · omega
            omega
          clear hp hpl hV
          go_wp2_with fail
          refine (nc.out _).mono ?_
          rintro e w3 ⟨rfl, b3⟩
          have hrow3 := row_on b3 (row_lt hrow.out) hrow.out
          obtain ⟨⟨c0, c1, c2, c3, c4⟩, f0, f1, f2, f3, f4⟩ := row5 hrow3
          have B4 := Lib.hid (bthen B3.out b3)
          go_wp2
          (try simp only [Exit.inBlock, Exit.then])
          refine bodyPost_ret (v := .tuple #[.agg #[.int .i64 0, .int .i64 0, .int .i64 0, .int .i64 0, .int .i64 0], .bool false]) ?_ rfl (readOut_no HN.out (below5 B4.out (Nat.le_refl _)))
          refine res_cell_tmp Tryd.results12 _ _ _ w.heap.size _ ?_ (run_loadVar_row _ _ 25 25 _ (0, 0) _ (set5 _ _ _ _ _ hrow3) Tryd.underlying25 rfl info_addr)
          rfl
        · obtain ⟨b, hb0⟩ : ∃ b, b = byteV p := ⟨_, rfl⟩
          obtain rfl : V = (b.toNat : Int) := by
            rw [hb0, byteV, hV]
            simp
            omega
          have hb256 := UInt8.toNat_lt b
          have E := Lib.hid (show (ps.take (i + 1)).map byteV = (ps.take i).map byteV ++ [b] by
            rw [List.getElem?_eq_getElem hil] at hp
            rw [take_snoc ps i hil, List.map_append, List.map_singleton, hb0, Option.some.inj hp])
          have ha2 := Lib.hid (show ∀ q ∈ ps.take (i + 1), 0 ≤ vB 10 q ∧ vB 10 q ≤ 255 by
            intro q hq
            rw [take_snoc ps i hil] at hq
            rcases List.mem_append.1 hq with h | h
            · exact ha.out q h
            · rw [List.getElem?_eq_getElem hil] at hp
              rw [List.mem_singleton.1 h, Option.some.inj hp, hV]
              omega)
          have hlen := Lib.hid (show ((ps.take i).map byteV).length ≤ 4 by rw [List.length_map, List.length_take]; omega)
          obtain ⟨bs, hbs⟩ : ∃ bs, bs = (ps.take i).map byteV := ⟨_, rfl⟩
          rw [← hbs] at ho E hlen
          clear hp hpl hV hb0 hbs
          go_wp2_with fail
          refine (nc.out _).mono ?_
          rintro e w3 ⟨rfl, b3⟩
          have HLO := Lib.hid (fun u (hu : u4.ownBlock = some u) => (ho.out.lt u hu).1)
          have o3 := Lib.hid (own_below (own_below ho.out b3) (Joins.below_alloc1 w3 (.cells #[.int .u8 (b.toNat : Int)] 5)))
          have c3 := Lib.hid (show ∀ (j : Nat) (p : List UInt8), ps[j]? = some p → (w3.alloc (.cells #[.int .u8 (b.toNat : Int)] 5)).cell? ⟨g4, j, none⟩ = some (.string (strOf p)) from fun j p hp => cell_on (Joins.below_alloc1 w3 _) (cell_on b3 (hcs.out j p hp)))
          have hz := hb.out.size
          have hz2 := B2.out.size
          have hz3 := b3.size
          have hzz : w.heap.size + 1 ≤ w2.heap.size := by have := HGL.out; have := HGH.out; omega
          have B4 := Lib.hid ((hb.out.trans (b3.mono (by omega))).alloc (by omega) (.cells #[.int .u8 (b.toNat : Int)] 5))
          clear b3 hc
          go_wp2_with (at_builtin; refine wpList_append_b rfl (.tmp 41) (.tmp 44) rfl (w.heap.size + 1) u4 bs rfl o3.out _ (some ⟨w3.heap.size, 0, none⟩) 1 1 [b] rfl rfl (RB.new w3 5 [b]) (by have := hlen.out; simp; omega) (by simp; omega) ?_; intro v5 w5 o5 g5 at5)
          have R1 := Lib.hid (show w5.ownsRow (w.heap.size + 1) 5 1 v5 ((ps.take (i + 1)).map byteV).length (cellsOf ((ps.take (i + 1)).map byteV)) by rw [E.out]; exact o5)
          have R2 := Lib.hid (show Below (w.heap.size + 1) w2 w5 from B4.out.grown g5 (by simp; omega) HLO.out)
          have R3 := Lib.hid (show ∀ u, v5.ownBlock = some u → u = w.heap.size + 1 ∨ w2.heap.size ≤ u from fun u hu => by
            rcases at5 with h | h
            · exact hob.out u (by rw [← h]; exact hu)
            · rw [h] at hu
              have := Option.some.inj hu
              simp at this
              omega)
          have R4 := Lib.hid (show ∀ (j : Nat) (p : List UInt8), ps[j]? = some p → w5.cell? ⟨g4, j, none⟩ = some (.string (strOf p)) from fun j p hp => g5.cell (c3.out j p hp) (fun e => by
            have h1 := hob.out g4 e.symm
            have := HGL.out
            have := HGH.out
            omega))
          go_wp2
          go_roundw
          case rel => exact ⟨i + 1, by omega, by go_num, ha2, R1, R3, R4, R2⟩
          case measure => simp [intOf]; omega
    · obtain rfl : i = 4 := by omega
      have e4 : ps.take 4 = ps := List.take_of_length_le (by rw [H4.out]; exact Nat.le_refl _)
      have hM1 : M = 1 := H1.out (fun p hp => by have := ha.out p (by rw [e4]; exact hp); omega)
      have eM : ((M : Int) == 8) = false := by rw [hM1]; rfl
      have o4 := ho.out
      rw [e4] at o4
      obtain ⟨bs, hbs⟩ : ∃ bs, bs = ps.map byteV := ⟨_, rfl⟩
      have hbl : bs.length = 4 := by rw [hbs, List.length_map, H4.out]
      rw [← hbs, hbl] at o4
      have HY := HE
      rw [← hbs] at HY
      clear hM1
      obtain ⟨A, k, rfl⟩ := own_form o4
      have ao := Lib.hid (show Calls Tryd.prog 38 #[.slice A 4 k] wr fun e w' => e = .returned (.tuple #[.agg #[.int .i64 (ofA bs).k, .int .i64 (ofA bs).a, .int .i64 (ofA bs).b, .int .i64 (ofA bs).c, .int .i64 (ofA bs).d], .bool true]) ∧ Below wr.heap.size wr w' by
        have hh := specAddrOf A 4 k bs wr (RB.of_own o4) hbl (by omega)
        unfold OfOut at hh
        rwa [show okA bs = true by simp [okA, hbl]] at hh)
      have hrow := Lib.hid (row_on hb.out (Nat.lt_succ_self _) NR.out)
      have B3 := Lib.hid (B2.out.trans (hb.out.mono (Nat.le_succ _)))
      obtain ⟨y, hy⟩ : ∃ y, y = ofA bs := ⟨_, rfl⟩
      rw [← hy] at ao HY
      obtain ⟨T, hT⟩ : ∃ T, T = y.text := ⟨_, rfl⟩
      have tx := Lib.hid (show ∀ v : World, Calls Tryd.prog 9 #[.agg #[.int .i64 y.k, .int .i64 y.a, .int .i64 y.b, .int .i64 y.c, .int .i64 y.d]] v fun e w' => e = .returned (.string (strOf T)) ∧ Below v.heap.size v w' from fun v => by
        rw [hT]
        exact specAddrText y v)
      rw [← hT] at HY
      clear e4 o4 hbs hbl hy hT
      go_wp2_with fail
      refine ao.out.mono ?_
      rintro e w5 ⟨rfl, b5⟩
      have q5 := row_on b5 (row_lt hrow.out) hrow.out
      have B5 := Lib.hid (bthen B3.out b5)
      have q6 := Lib.hid (row_on (Joins.below_alloc1 w5 (.cells #[.int .i64 y.k, .int .i64 y.a, .int .i64 y.b, .int .i64 y.c, .int .i64 y.d] 25)) (row_lt q5) q5)
      clear q5 b5
      go_wp2_with fail
      refine (tx.out _).mono ?_
      rintro e w6 ⟨rfl, b6⟩
      obtain ⟨d0, d1, d2, d3, d4⟩ := ad_box b6
      have q7 := Lib.hid (row_on b6 (row_lt q6.out) q6.out)
      obtain ⟨⟨c0, c1, c2, c3, c4⟩, f0, f1, f2, f3, f4⟩ := row5 q7.out
      have B7 := Lib.hid (bthen (bthen B5.out (Joins.below_alloc1 w5 _)) b6)
      clear b6
      by_cases ht : T = s.data.toList
      · have he : strOf T = s := by rw [ht]; exact strOf_toList s
        have HR := Lib.hid (show R = some y by rw [HY.out, if_pos ht])
        rw [he]
        clear ht he HY
        go_wp2
        (try simp only [Exit.inBlock, Exit.then])
        refine bodyPost_ret (v := .tuple #[.agg #[.int .i64 y.k, .int .i64 y.a, .int .i64 y.b, .int .i64 y.c, .int .i64 y.d], .bool true]) ?_ rfl (readOut_yes HR.out (below5 B7.out (Nat.le_refl _)))
        refine res_cell_tmp Tryd.results12 _ _ _ w.heap.size _ ?_ (run_loadVar_row _ _ 25 25 _ (0, 0) _ (set5 _ _ _ _ _ q7.out) Tryd.underlying25 rfl info_addr)
        rfl
      · have hne : (!(strOf T).toList == s.toList) = true := by
          simp only [Bool.not_eq_true', beq_eq_false_iff_ne, ne_eq]
          rw [ByteArray.toList_eq, ByteArray.toList_eq]
          exact ht
        have HR := Lib.hid (show R = none by rw [HY.out, if_neg ht])
        clear ht HY
        go_wp2
        (try simp only [Exit.inBlock, Exit.then])
        refine bodyPost_ret (v := .tuple #[.agg #[.int .i64 0, .int .i64 0, .int .i64 0, .int .i64 0, .int .i64 0], .bool false]) ?_ rfl (readOut_no HR.out (below5 B7.out (Nat.le_refl _)))
        refine res_cell_tmp Tryd.results12 _ _ _ w.heap.size _ ?_ (run_loadVar_row _ _ 25 25 _ (0, 0) _ (set5 _ _ _ _ _ q7.out) Tryd.underlying25 rfl info_addr)
        rfl
end Go.Proofs.YtckakpcjbndijabDoor
