/-
  AddrOf in the program.
-/
import Derived.Test.YtdndanbalmoklaaAddrOf
namespace Go.Proofs.Ytdndanbalmoklaa
set_option maxRecDepth 100000
open Go.RowKit

theorem splice_four (bs : List UInt8) (h : bs.length = 4) : splice (cellsOf (List.replicate 16 0)) 12 (cellsOf bs) = cellsOf (List.replicate 12 0 ++ bs) := by
  obtain ⟨p, q, r, s, rfl⟩ := len4 h
  simp [splice, cellsOf]
theorem splice_all (bs : List UInt8) (h : bs.length = 16) : splice (cellsOf (List.replicate 16 0)) 0 (cellsOf bs) = cellsOf bs := by
  simp [splice, cellsOf, h]
theorem unpacked4 (bs : List UInt8) (h : bs.length = 4) (w : World) : Calls Try.prog 182 #[.int .i64 4, .agg (cellsOf (List.replicate 12 0 ++ bs)).toArray] w fun e w' => e = .returned (.agg #[.int .i64 4, .int .i64 0, .int .i64 0, .int .i64 0, .int .i64 (be bs)]) ∧ Below w.heap.size w w' := by
  have hu := unpackedC 4 (List.replicate 12 0 ++ bs) (by simp [h]) w
  rwa [unw_four bs h] at hu

theorem slice_arr_all (g : Nat) (w : World) : (Instr.sliceAt 152 (.pointer (some ⟨g, 0, none⟩)) none none none).run Try.prog w = .ok (.slice (some ⟨g, 0, none⟩) 16 16) w := by
  obtain ⟨i0, hi0, hz0, hz1, hz2⟩ := info_parts info_u8
  have e : Try.prog.elem 152 = 5 := by kernel_rfl
  have el : Try.prog.arrayLen 152 = 16 := by kernel_rfl
  rw [run_sliceAt_array_all w _ _ (by kernel_rfl)]
  simp [e, el, sizeOf, typeInfo, hi0, slicedAt, hz1, addr_add]

set_option maxHeartbeats 400000 in
theorem implAddrOf_four (A : Option Addr) (c : Nat) (bs : List UInt8) (w : World) (hr : RB w w.heap.size A bs) (hl : bs.length = 4) : Calls Try.prog 179 #[.slice A 4 c] w (OfOut bs w) := by
  obtain ⟨g, o, rfl, hg, hcell⟩ := hr (by omega)
  have HO := Lib.hid (And.intro (ofA_four hl) (show okA bs = true by simp [okA, hl]))
  have HL := Lib.hid hl
  obtain ⟨Z, hZ⟩ : ∃ Z : List Value, Z = cellsOf (List.replicate 16 0) := ⟨_, rfl⟩
  have HZ := Lib.hid hZ
  obtain ⟨Y, hY⟩ : ∃ Y : List UInt8, Y = List.replicate 12 0 ++ bs := ⟨_, rfl⟩
  have HY := Lib.hid hY
  have hY16 : (cellsOf Y).toArray.size = 16 := by rw [cells_size, hY]; simp [hl]
  have HYS := Lib.hid hY16
  have hup := unpacked4 bs hl
  rw [← hY] at hup
  have HUP := Lib.hid hup
  have hsl := slice_arr (w.heap.size + 1) 12 (by omega)
  have hsrc := Lib.hid (show ∀ j v, (cellsOf bs)[j]? = some v → w.cell? ⟨g, o + j, none⟩ = some v from fun j v hv => by
    simp only [cellsOf, List.getElem?_map, Option.map_eq_some_iff] at hv
    obtain ⟨u, hu, rfl⟩ := hv
    exact hcell j u hu)
  clear hZ hY hY16 hup hl hcell hr
  go_enter Try.func179, Try.ntmps179
  go_wp2_with (with_reducible refine wpList_copy_splice rfl (.tmp 9) (.tmp 10) 50 50 rfl 5 Try.underlying50 info_u8s _ _ _ _ _ _ rfl rfl (w.heap.size + 1) 12 Z 152 ?_ (cellsOf bs) ?_ ?_ ?_ (cellsOf_one _) (w.heap.size + 1) _ (Below.refl _ _) (Nat.le_refl _) ?_)
  · rw [HZ.out]
    exact heap_alloc2_new w _ _
  · rw [cellsOf_length, HL.out]
    rfl
  · exact fun _ => hsrc.out
  · rw [HZ.out, cellsOf_length, cellsOf_length, HL.out]
    decide
  · intro w4 hg4 hb4
    have r4 : Hid (w4.heap[w.heap.size + 1]? = some (.cells (cellsOf Y).toArray 152 (0, 0))) := Lib.hid (by rw [HY.out, ← splice_four bs HL.out, ← HZ.out]; exact hg4.out)
    have q4 := Lib.hid (row_on hb4 (g := w.heap.size) (by omega) (heap_alloc2_old w _ _))
    have B4 : Below w.heap.size w w4 := (Joins.below_alloc2 w _ _).trans (hb4.mono (by omega))
    clear hg4 hb4
    go_wp2_with (with_reducible refine wpList_load_row rfl 152 (.tmp 4) rfl (w.heap.size + 1) rfl 152 (cellsOf Y).toArray (0, 0) _ r4.out Try.underlying152 rfl (by rw [HYS.out]; exact info_arr) ?_)
    refine (HUP.out _).mono ?_
    rintro e w5 ⟨rfl, b5⟩
    have q5 := Lib.hid (row_on b5 (row_lt q4.out) q4.out)
    obtain ⟨⟨c0, c1, c2, c3, c4⟩, f0, f1, f2, f3, f4⟩ := row5 q5.out
    have B5 := bthen B4 b5
    go_wp2
    (try simp only [Exit.inBlock, Exit.then])
    refine bodyPost_ret (v := .tuple #[.agg #[.int .i64 4, .int .i64 0, .int .i64 0, .int .i64 0, .int .i64 (be bs)], .bool true]) ?_ rfl (ofOut_of HO.out.1 HO.out.2 (by go_grown))
    refine res_cell_tmp Try.results179 _ _ _ w.heap.size _ ?_ (run_loadVar_row _ _ 29 29 _ (0, 0) _ (set5 _ _ _ _ _ q5.out) Try.underlying29 rfl info_addr)
    rfl

set_option maxHeartbeats 400000 in
theorem implAddrOf_six (A : Option Addr) (c : Nat) (bs : List UInt8) (w : World) (hr : RB w w.heap.size A bs) (hl : bs.length = 16) : Calls Try.prog 179 #[.slice A 16 c] w (OfOut bs w) := by
  obtain ⟨g, o, rfl, hg, hcell⟩ := hr (by omega)
  have HO := Lib.hid (And.intro (ofA_six hl) (show okA bs = true by simp [okA, hl]))
  have HL := Lib.hid hl
  obtain ⟨Z, hZ⟩ : ∃ Z : List Value, Z = cellsOf (List.replicate 16 0) := ⟨_, rfl⟩
  have HZ := Lib.hid hZ
  have HYS := Lib.hid ((cells_size bs).trans hl)
  have hsl := slice_arr_all (w.heap.size + 1)
  have hsrc := Lib.hid (show ∀ j v, (cellsOf bs)[j]? = some v → w.cell? ⟨g, o + j, none⟩ = some v from fun j v hv => by
    simp only [cellsOf, List.getElem?_map, Option.map_eq_some_iff] at hv
    obtain ⟨u, hu, rfl⟩ := hv
    exact hcell j u hu)
  clear hZ hl hcell hr
  go_enter Try.func179, Try.ntmps179
  go_wp2_with (with_reducible refine wpList_copy_splice rfl (.tmp 16) (.tmp 17) 50 50 rfl 5 Try.underlying50 info_u8s _ _ _ _ _ _ rfl rfl (w.heap.size + 1) 0 Z 152 ?_ (cellsOf bs) ?_ ?_ ?_ (cellsOf_one _) (w.heap.size + 1) _ (Below.refl _ _) (Nat.le_refl _) ?_)
  · rw [HZ.out]
    exact heap_alloc2_new w _ _
  · rw [cellsOf_length, HL.out]
    rfl
  · exact fun _ => hsrc.out
  · rw [HZ.out, cellsOf_length, cellsOf_length, HL.out]
    decide
  · intro w4 hg4 hb4
    have r4 : Hid (w4.heap[w.heap.size + 1]? = some (.cells (cellsOf bs).toArray 152 (0, 0))) := Lib.hid (by rw [← splice_all bs HL.out, ← HZ.out]; exact hg4.out)
    have q4 := Lib.hid (row_on hb4 (g := w.heap.size) (by omega) (heap_alloc2_old w _ _))
    have B4 : Below w.heap.size w w4 := (Joins.below_alloc2 w _ _).trans (hb4.mono (by omega))
    clear hg4 hb4
    go_wp2_with (with_reducible refine wpList_load_row rfl 152 (.tmp 4) rfl (w.heap.size + 1) rfl 152 (cellsOf bs).toArray (0, 0) _ r4.out Try.underlying152 rfl (by rw [HYS.out]; exact info_arr) ?_)
    refine (unpackedC 6 bs HL.out _).mono ?_
    rintro e w5 ⟨rfl, b5⟩
    have q5 := Lib.hid (row_on b5 (row_lt q4.out) q4.out)
    obtain ⟨⟨c0, c1, c2, c3, c4⟩, f0, f1, f2, f3, f4⟩ := row5 q5.out
    have B5 := bthen B4 b5
    go_wp2
    (try simp only [Exit.inBlock, Exit.then])
    refine bodyPost_ret (v := .tuple #[.agg #[.int .i64 (unw 6 bs).k, .int .i64 (unw 6 bs).a, .int .i64 (unw 6 bs).b, .int .i64 (unw 6 bs).c, .int .i64 (unw 6 bs).d], .bool true]) ?_ rfl (ofOut_of HO.out.1 HO.out.2 (by go_grown))
    refine res_cell_tmp Try.results179 _ _ _ w.heap.size _ ?_ (run_loadVar_row _ _ 29 29 _ (0, 0) _ (set5 _ _ _ _ _ q5.out) Try.underlying29 rfl info_addr)
    rfl

set_option maxHeartbeats 400000 in
theorem implAddrOf (A : Option Addr) (n c : Nat) (bs : List UInt8) (w : World) (hr : RB w w.heap.size A bs) (hl : bs.length = n) (hn : n ≤ 1048576) : Calls Try.prog 179 #[.slice A n c] w (OfOut bs w) := by
  by_cases h4 : n = 4
  · subst h4
    exact implAddrOf_four A c bs w hr hl
  · by_cases h16 : n = 16
    · subst h16
      exact implAddrOf_six A c bs w hr hl
    · have HO := Lib.hid (And.intro (show ofA bs = Ad.zero by simp [ofA, hl, h4, h16]) (show okA bs = false by simp [okA, hl, h4, h16]))
      clear hr hl
      go_enter Try.func179, Try.ntmps179
      go_wp2
      go_returns
      exact ofOut_of HO.out.1 HO.out.2 (by go_grown)
end Go.Proofs.Ytdndanbalmoklaa
