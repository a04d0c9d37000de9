/-
  AddrBytes, AddrOf and Cut in the program. AddrOf in the program and in the model. AddrOf in the program.
-/
import Derived.Test.YtkmijefheejcjaaKq03
import Derived.Deep.OwnRows
import Derived.Laws.ResultCell
namespace Go.Proofs.Ytkmijefheejcjaa
set_option maxRecDepth 100000
open Go.RowKit

theorem own_of_row {w : World} {base g n : Nat} {e : TypeId} {xs : List Value} (h : w.heap[g]? = some (.cells xs.toArray e (0, 0))) (hb : base ≤ g) (hn : xs.length = n) (hm : n ≤ maxLen) : w.ownsRow base e 1 (.slice (some ⟨g, 0, none⟩) n n) n xs := by
  refine ⟨by omega, .inr ⟨g, n, xs.toArray, rfl, hb, h, Nat.le_refl _, hm, by simp; omega, ?_⟩⟩
  rw [List.take_of_length_le (by simp; omega)]

theorem cells_two {w : World} {c1 c2 : Array Value} {t1 t2 : TypeId} (j : Nat) (v : Value) (h : c1[j]? = some v) : ((w.alloc (.cells c1 t1)).alloc (.cells c2 t2)).cell? ⟨w.heap.size, j, none⟩ = some v := by
  rw [World.cell?_alloc_lt _ _ _ (by simp)]
  simp [h]

theorem whole_back4 {x : Ad} (h : x.a = 0 ∧ x.b = 0 ∧ x.c = 0) (j : Nat) (v : Value) (hv : (cellsOf (put32 x.d))[j]? = some v) : (cellsOf x.whole)[12 + j]? = some v := by
  rw [whole_four h, cellsOf_append, List.getElem?_append_right (by simp [cellsOf])]
  simpa [cellsOf] using hv

theorem make_bytes (n : Nat) (hn : n ≤ 1048576) (w : World) : (Instr.makeSlice 22 (.int .i64 (n : Int)) (.int .i64 (n : Int))).run Try.prog w = .ok (.slice (some ⟨w.heap.size, 0, none⟩) n n) (w.alloc (.cells (cellsOf (List.replicate n 0)).toArray 5)) := by
  have h := Go.run_make_row' (P := Try.prog) 22 5 (.int .u8 0) 1 Try.underlying22 info_u8 rfl .i64 .i64 n (by omega) (by omega) w
  have e : madeCells #[Value.int .u8 0] n = (cellsOf (List.replicate n 0)).toArray := by
    have := toList_madeCells_one (.int .u8 0) n
    apply Array.toList_inj.1
    simpa [cellsOf] using this
  rw [h, e]

set_option maxHeartbeats 400000 in
theorem implAddrBytes_no (x : Ad) (h : x.ok = false) (w : World) : Calls Try.prog 60 #[.agg #[.int .i64 x.k, .int .i64 x.a, .int .i64 x.b, .int .i64 x.c, .int .i64 x.d]] w (BytesOut x w) := by
  have H := Lib.hid h
  clear h
  go_enter Try.func60, Try.ntmps60
  go_wp2_with fail
  refine (implAddrOk x _).mono ?_
  rintro e w1 ⟨rfl, b1⟩
  have h := H.out
  go_wp2
  go_ret
  exact bytesOut_no H.out (bthen (Joins.below_alloc1 w _) b1)

set_option maxHeartbeats 400000 in
theorem implAddrBytes_four (x : Ad) (h : x.ok = true) (hk : x.k = 4) (w : World) : Calls Try.prog 60 #[.agg #[.int .i64 x.k, .int .i64 x.a, .int .i64 x.b, .int .i64 x.c, .int .i64 x.d]] w (BytesOut x w) := by
  have H := Lib.hid (bytes_four h hk)
  have HZ := Lib.hid (x.ok_four h hk)
  have HK := Lib.hid (bits_is x h)
  have HB := Lib.hid (show x.bits = 32 by simp [Ad.bits, hk])
  have HH := Lib.hid h
  clear h hk
  go_enter Try.func60, Try.ntmps60
  go_wp2_with fail
  refine (implAddrOk x _).mono ?_
  rintro e w1 ⟨rfl, b1⟩
  obtain ⟨c0, c1, c2, c3, c4⟩ := ad_box b1
  have bb := bthen (Joins.below_alloc1 w _) b1
  have h := HH.out
  clear b1
  go_wp2_with fail
  refine (packedC x _).mono ?_
  rintro e w2 ⟨rfl, b2⟩
  have hst := store_cells (w2.alloc (.cells (cellsOf (List.replicate 16 0)).toArray 113)) w2.heap.size 113 _ x.whole (Go.heap_alloc_last _ _) (by rw [x.whole_length]; rfl)
  have hz : (cellsOf (List.replicate 16 0)).toArray = #[Value.int .u8 0, .int .u8 0, .int .u8 0, .int .u8 0, .int .u8 0, .int .u8 0, .int .u8 0, .int .u8 0, .int .u8 0, .int .u8 0, .int .u8 0, .int .u8 0, .int .u8 0, .int .u8 0, .int .u8 0, .int .u8 0] := rfl
  rw [World.setRow_alloc_new, hz] at hst
  have cA : (w2.alloc (.cells (cellsOf x.whole).toArray 113)).cell? ⟨w.heap.size, 0, none⟩ = some (.int .i64 x.k) := cell_on (Joins.below_alloc1 w2 _) (cell_on b2 c0)
  have hl16 : (cellsOf x.whole).length = 16 := by rw [cellsOf_length, x.whole_length]
  have B2 := bthen bb b2
  clear hz c0 c1 c2 c3 c4
  have hmk : ∀ w, (Instr.makeSlice 22 (.int .i64 4) (.int .i64 4)).run Try.prog w = .ok (.slice (some ⟨w.heap.size, 0, none⟩) 4 4) (w.alloc (.cells (cellsOf (List.replicate 4 0)).toArray 5)) := make_bytes 4 (by omega)
  have hsl := slice_arr w2.heap.size 12 (by omega)
  go_wp2_with (first | (go_at_call 111; refine (HK.out _).mono ?_; rintro e w' ⟨rfl, rfl⟩; rw [HB.out]) | (with_reducible refine wpList_copy_splice rfl (.tmp 15) (.tmp 19) 22 22 rfl 5 Try.underlying22 info_u8s _ _ _ _ _ _ rfl rfl (w2.heap.size + 1) 0 (cellsOf (List.replicate 4 0)) 5 ?_ (cellsOf (put32 x.d)) ?_ ?_ ?_ (cellsOf_one _) (w2.heap.size + 1) _ (Below.refl _ _) (Nat.le_refl _) ?_))
  · exact heap_alloc2_new w2 _ _
  · rfl
  · exact fun _ j v hv => whole_back4 HZ.out j v hv
  · simp [cellsOf, put32]
  · intro w4 hg4 hb4
    have hg : w4.heap[w2.heap.size + 1]? = some (.cells (cellsOf (put32 x.d)).toArray 5 (0, 0)) := by simpa [splice, cellsOf, put32] using hg4.out
    have o4 := Lib.hid (own_of_row (base := w2.heap.size + 1) hg (Nat.le_refl _) (show _ = 4 from rfl) (by decide))
    clear hg
    go_wp2
    go_ret
    exact bytesOut_yes H.out rfl o4.out (by have := B2.size; omega) ((bthen B2 (Joins.below_alloc2 w2 _ _)).trans (hb4.mono (by have := B2.size; omega)))
set_option maxHeartbeats 400000 in
theorem implAddrBytes_six (x : Ad) (h : x.ok = true) (hk : x.k = 6) (w : World) : Calls Try.prog 60 #[.agg #[.int .i64 x.k, .int .i64 x.a, .int .i64 x.b, .int .i64 x.c, .int .i64 x.d]] w (BytesOut x w) := by
  have H := Lib.hid (bytes_six h hk)
  have HK := Lib.hid (bits_is x h)
  have HB := Lib.hid (show x.bits = 128 by simp [Ad.bits, hk])
  have HH := Lib.hid h
  clear h hk
  go_enter Try.func60, Try.ntmps60
  go_wp2_with fail
  refine (implAddrOk x _).mono ?_
  rintro e w1 ⟨rfl, b1⟩
  obtain ⟨c0, c1, c2, c3, c4⟩ := ad_box b1
  have bb := bthen (Joins.below_alloc1 w _) b1
  have h := HH.out
  clear b1
  go_wp2_with fail
  refine (packedC x _).mono ?_
  rintro e w2 ⟨rfl, b2⟩
  have hst := store_cells (w2.alloc (.cells (cellsOf (List.replicate 16 0)).toArray 113)) w2.heap.size 113 _ x.whole (Go.heap_alloc_last _ _) (by rw [x.whole_length]; rfl)
  have hz : (cellsOf (List.replicate 16 0)).toArray = #[Value.int .u8 0, .int .u8 0, .int .u8 0, .int .u8 0, .int .u8 0, .int .u8 0, .int .u8 0, .int .u8 0, .int .u8 0, .int .u8 0, .int .u8 0, .int .u8 0, .int .u8 0, .int .u8 0, .int .u8 0, .int .u8 0] := rfl
  rw [World.setRow_alloc_new, hz] at hst
  have cA : (w2.alloc (.cells (cellsOf x.whole).toArray 113)).cell? ⟨w.heap.size, 0, none⟩ = some (.int .i64 x.k) := cell_on (Joins.below_alloc1 w2 _) (cell_on b2 c0)
  have hl16 : (cellsOf x.whole).length = 16 := by rw [cellsOf_length, x.whole_length]
  have B2 := bthen bb b2
  clear hz c0 c1 c2 c3 c4
  have hmk : ∀ w, (Instr.makeSlice 22 (.int .i64 16) (.int .i64 16)).run Try.prog w = .ok (.slice (some ⟨w.heap.size, 0, none⟩) 16 16) (w.alloc (.cells (cellsOf (List.replicate 16 0)).toArray 5)) := make_bytes 16 (by omega)
  have hsl := slice_arr w2.heap.size 0 (by omega)
  go_wp2_with (first | (go_at_call 111; refine (HK.out _).mono ?_; rintro e w' ⟨rfl, rfl⟩; rw [HB.out]) | (with_reducible refine wpList_copy_splice rfl (.tmp 15) (.tmp 19) 22 22 rfl 5 Try.underlying22 info_u8s _ _ _ _ _ _ rfl rfl (w2.heap.size + 1) 0 (cellsOf (List.replicate 16 0)) 5 ?_ (cellsOf x.whole) ?_ ?_ ?_ (cellsOf_one _) (w2.heap.size + 1) _ (Below.refl _ _) (Nat.le_refl _) ?_))
  · exact heap_alloc2_new w2 _ _
  · rfl
  · simp [cellsOf, Ad.whole, put32]
  · intro w4 hg4 hb4
    have hg : w4.heap[w2.heap.size + 1]? = some (.cells (cellsOf x.whole).toArray 5 (0, 0)) := by simpa [splice, cellsOf, Ad.whole, put32] using hg4.out
    have o4 := Lib.hid (own_of_row (base := w2.heap.size + 1) hg (Nat.le_refl _) (show _ = 16 from rfl) (by decide))
    clear hg
    go_wp2
    go_ret
    exact bytesOut_yes H.out rfl o4.out (by have := B2.size; omega) ((bthen B2 (Joins.below_alloc2 w2 _ _)).trans (hb4.mono (by have := B2.size; omega)))
theorem implAddrBytes (x : Ad) (w : World) : Calls Try.prog 60 #[.agg #[.int .i64 x.k, .int .i64 x.a, .int .i64 x.b, .int .i64 x.c, .int .i64 x.d]] w (BytesOut x w) := by
  cases h : x.ok
  · exact implAddrBytes_no x h w
  · rcases x.ok_kind h with hk | hk
    · exact implAddrBytes_four x h hk w
    · exact implAddrBytes_six x h hk w
end Go.Proofs.Ytkmijefheejcjaa

namespace Go.Proofs.Ytkmijefheejcjaa
set_option maxRecDepth 100000
open Go.RowKit

/-- The address of bytes: of four, of sixteen. -/
def ofA (bs : List UInt8) : Ad := if bs.length = 4 then ⟨4, 0, 0, 0, be bs⟩ else if bs.length = 16 then unw 6 bs else Ad.zero
def okA (bs : List UInt8) : Bool := decide (bs.length = 4) || decide (bs.length = 16)
def OfOut (bs : List UInt8) (w : World) (e : Ending) (w' : World) : Prop := e = .returned (.tuple #[.agg #[.int .i64 (ofA bs).k, .int .i64 (ofA bs).a, .int .i64 (ofA bs).b, .int .i64 (ofA bs).c, .int .i64 (ofA bs).d], .bool (okA bs)]) ∧ Below w.heap.size w w'
theorem ofOut_of {bs : List UInt8} {y : Ad} {ok : Bool} {w w' : World} (h1 : ofA bs = y) (h2 : okA bs = ok) (hb : Below w.heap.size w w') : OfOut bs w (.returned (.tuple #[.agg #[.int .i64 y.k, .int .i64 y.a, .int .i64 y.b, .int .i64 y.c, .int .i64 y.d], .bool ok])) w' := by
  subst h1
  subst h2
  exact ⟨rfl, hb⟩
theorem ofA_four {bs : List UInt8} (h : bs.length = 4) : ofA bs = ⟨4, 0, 0, 0, be bs⟩ := by simp [ofA, h]
theorem ofA_six {bs : List UInt8} (h : bs.length = 16) : ofA bs = unw 6 bs := by simp [ofA, h]
theorem unw_four (bs : List UInt8) (h : bs.length = 4) : unw 4 (List.replicate 12 0 ++ bs) = ⟨4, 0, 0, 0, be bs⟩ := by
  obtain ⟨p, q, r, s, rfl⟩ := len4 h
  simp [unw, be]

/-- The cells of a block of five that may be written. -/
theorem row5 {w : World} {g : Nat} {v0 v1 v2 v3 v4 : Value} {t : TypeId} (h : w.heap[g]? = some (.cells #[v0, v1, v2, v3, v4] t (0, 0))) :
    (w.cell? ⟨g, 0, none⟩ = some v0 ∧ w.cell? ⟨g, 1, none⟩ = some v1 ∧ w.cell? ⟨g, 2, none⟩ = some v2 ∧ w.cell? ⟨g, 3, none⟩ = some v3 ∧ w.cell? ⟨g, 4, none⟩ = some v4) ∧
      (w.frozen? ⟨g, 0, none⟩ = false ∧ w.frozen? ⟨g, 1, none⟩ = false ∧ w.frozen? ⟨g, 2, none⟩ = false ∧ w.frozen? ⟨g, 3, none⟩ = false ∧ w.frozen? ⟨g, 4, none⟩ = false) :=
  ⟨⟨cell_of_row w g 0 _ _ _ h, cell_of_row w g 1 _ _ _ h, cell_of_row w g 2 _ _ _ h, cell_of_row w g 3 _ _ _ h, cell_of_row w g 4 _ _ _ h⟩,
    ⟨frozen_of_row w g 0 _ _ h, frozen_of_row w g 1 _ _ h, frozen_of_row w g 2 _ _ h, frozen_of_row w g 3 _ _ h, frozen_of_row w g 4 _ _ h⟩⟩
theorem set5 {w : World} {g : Nat} {a0 a1 a2 a3 a4 : Value} {t : TypeId} (v0 v1 v2 v3 v4 : Value) (h : w.heap[g]? = some (.cells #[a0, a1, a2, a3, a4] t (0, 0))) :
    (((((w.setCell ⟨g, 0, none⟩ v0).setCell ⟨g, 1, none⟩ v1).setCell ⟨g, 2, none⟩ v2).setCell ⟨g, 3, none⟩ v3).setCell ⟨g, 4, none⟩ v4).heap[g]? = some (.cells #[v0, v1, v2, v3, v4] t (0, 0)) :=
  heap_setCell_same _ g 4 #[v0, v1, v2, v3, a4] t v4 (heap_setCell_same _ g 3 #[v0, v1, v2, a3, a4] t v3 (heap_setCell_same _ g 2 #[v0, v1, a2, a3, a4] t v2 (heap_setCell_same _ g 1 #[v0, a1, a2, a3, a4] t v1 (heap_setCell_same _ g 0 _ t v0 h))))
theorem res_cell_tmp {fn : Func} {p u : Tmp} {ty : TypeId} (h : fn.results = #[.cell p ty, .tmp u]) (tmps : Array Value) (P : Program) (w : World) (g : Nat) (cs : Array Value)
    (hp : tmps.getD p undef = .pointer (some ⟨g, 0, none⟩)) (hld : (loadVar ty ⟨g, 0, none⟩).run P w = .ok (.agg cs) w) :
    (results fn tmps).run P w = .ok (.tuple #[.agg cs, tmps.getD u undef]) w := by
  rw [results_cell_tmp h, hp]
  simp [asAddr, Result.andThen, hld]
theorem info_addr : (Try.prog.info? 25).map (·.size) = some 5 := by kernel_rfl
theorem new_row {w w' : World} {o : Obj} (b : Below (w.alloc o).heap.size (w.alloc o) w') : w'.heap[w.heap.size]? = some o := row_on b (by simp) (Go.heap_alloc_last w o)

set_option maxHeartbeats 400000 in
theorem specAddrOf (A : Option Addr) (n c : Nat) (bs : List UInt8) (w : World) (hr : RB w w.heap.size A bs) (hl : bs.length = n) (hn : n ≤ 1048576) : Calls Try.prog 91 #[.slice A n c] w (OfOut bs w) := by
  have hr1 : ∀ o, RB (w.alloc o) (w.alloc o).heap.size A bs := fun o => (hr.below (Joins.below_alloc1 w o)).more (by simp)
  have HR := Lib.hid hr1
  have HL := Lib.hid hl
  by_cases h4 : n = 4
  · subst h4
    have HO := Lib.hid (And.intro (ofA_four hl) (show okA bs = true by simp [okA, hl]))
    have e4 := Lib.hid (show (bs.drop 0).take 4 = bs from List.take_of_length_le (by simp; omega))
    clear hr1 hl
    go_enter Try.func91, Try.ntmps91
    go_wp2_with fail
    refine (specBe32 A 4 c bs 0 _ (HR.out _) HL.out (by omega) (by omega)).mono ?_
    rintro e w1 ⟨rfl, b1⟩
    rw [e4.out]
    obtain ⟨⟨c0, c1, c2, c3, c4⟩, f0, f1, f2, f3, f4⟩ := row5 (new_row b1)
    go_wp2
    (try simp only [Exit.inBlock, Exit.then])
    refine bodyPost_ret (v := .tuple #[.agg #[.int .i64 4, .int .i64 0, .int .i64 0, .int .i64 0, .int .i64 (be bs)], .bool true]) ?_ rfl (ofOut_of HO.out.1 HO.out.2 (by have := bthen (Joins.below_alloc1 w _) b1; go_grown))
    refine res_cell_tmp Try.results91 _ _ _ w.heap.size _ ?_ (run_loadVar_row _ _ 25 25 _ (0, 0) _ (set5 _ _ _ _ _ (new_row b1)) Try.underlying25 rfl info_addr)
    rfl
  · by_cases h16 : n = 16
    · subst h16
      have HO := Lib.hid (And.intro (ofA_six hl) (show okA bs = true by simp [okA, hl]))
      clear hr1 hl
      go_enter Try.func91, Try.ntmps91
      go_wp2_with fail
      refine (specBe32 A 16 c bs 0 _ (HR.out _) HL.out (by omega) (by omega)).mono ?_
      rintro e w1 ⟨rfl, b1⟩
      have r1 := ((HR.out _).below b1).more b1.size
      go_wp2_with fail
      refine (specBe32 A 16 c bs 4 _ r1 HL.out (by omega) (by omega)).mono ?_
      rintro e w2 ⟨rfl, b2⟩
      have r2 := (r1.below b2).more b2.size
      go_wp2_with fail
      refine (specBe32 A 16 c bs 8 _ r2 HL.out (by omega) (by omega)).mono ?_
      rintro e w3 ⟨rfl, b3⟩
      have r3 := (r2.below b3).more b3.size
      go_wp2_with fail
      refine (specBe32 A 16 c bs 12 _ r3 HL.out (by omega) (by omega)).mono ?_
      rintro e w4 ⟨rfl, b4⟩
      have B4 := bthen (bthen (bthen b1 b2) b3) b4
      obtain ⟨⟨c0, c1, c2, c3, c4⟩, f0, f1, f2, f3, f4⟩ := row5 (new_row B4)
      have B5 := bthen (Joins.below_alloc1 w _) B4
      have N5 := Lib.hid (new_row B4)
      clear b1 b2 b3 b4 B4 r1 r2 r3
      go_wp2
      (try simp only [Exit.inBlock, Exit.then])
      refine bodyPost_ret (v := .tuple #[.agg #[.int .i64 (unw 6 bs).k, .int .i64 (unw 6 bs).a, .int .i64 (unw 6 bs).b, .int .i64 (unw 6 bs).c, .int .i64 (unw 6 bs).d], .bool true]) ?_ rfl (ofOut_of HO.out.1 HO.out.2 (by go_grown))
      refine res_cell_tmp Try.results91 _ _ _ w.heap.size _ ?_ (run_loadVar_row _ _ 25 25 _ (0, 0) _ (set5 _ _ _ _ _ N5.out) Try.underlying25 rfl info_addr)
      rfl
    · have HO := Lib.hid (And.intro (show ofA bs = Ad.zero by simp [ofA, hl, h4, h16]) (show okA bs = false by simp [okA, hl, h4, h16]))
      clear hr1 hl
      go_enter Try.func91, Try.ntmps91
      go_wp2
      go_returns
      exact ofOut_of HO.out.1 HO.out.2 (by go_grown)
end Go.Proofs.Ytkmijefheejcjaa

namespace Go.Proofs.Ytkmijefheejcjaa
set_option maxRecDepth 100000
open Go.RowKit

theorem splice_four (bs : List UInt8) (h : bs.length = 4) : splice (cellsOf (List.replicate 16 0)) 12 (cellsOf bs) = cellsOf (List.replicate 12 0 ++ bs) := by
  obtain ⟨p, q, r, s, rfl⟩ := len4 h
  simp [splice, cellsOf]
theorem splice_all (bs : List UInt8) (h : bs.length = 16) : splice (cellsOf (List.replicate 16 0)) 0 (cellsOf bs) = cellsOf bs := by
  simp [splice, cellsOf, h]
theorem unpacked4 (bs : List UInt8) (h : bs.length = 4) (w : World) : Calls Try.prog 138 #[.int .i64 4, .agg (cellsOf (List.replicate 12 0 ++ bs)).toArray] w fun e w' => e = .returned (.agg #[.int .i64 4, .int .i64 0, .int .i64 0, .int .i64 0, .int .i64 (be bs)]) ∧ Below w.heap.size w w' := by
  have hu := unpackedC 4 (List.replicate 12 0 ++ bs) (by simp [h]) w
  rwa [unw_four bs h] at hu

theorem slice_arr_all (g : Nat) (w : World) : (Instr.sliceAt 113 (.pointer (some ⟨g, 0, none⟩)) none none none).run Try.prog w = .ok (.slice (some ⟨g, 0, none⟩) 16 16) w := by
  obtain ⟨i0, hi0, hz0, hz1, hz2⟩ := info_parts info_u8
  have e : Try.prog.elem 113 = 5 := by kernel_rfl
  have el : Try.prog.arrayLen 113 = 16 := by kernel_rfl
  rw [run_sliceAt_array_all w _ _ (by kernel_rfl)]
  simp [e, el, sizeOf, typeInfo, hi0, slicedAt, hz1, addr_add]

set_option maxHeartbeats 400000 in
theorem implAddrOf_four (A : Option Addr) (c : Nat) (bs : List UInt8) (w : World) (hr : RB w w.heap.size A bs) (hl : bs.length = 4) : Calls Try.prog 135 #[.slice A 4 c] w (OfOut bs w) := by
  obtain ⟨g, o, rfl, hg, hcell⟩ := hr (by omega)
  have HO := Lib.hid (And.intro (ofA_four hl) (show okA bs = true by simp [okA, hl]))
  have HL := Lib.hid hl
  obtain ⟨Z, hZ⟩ : ∃ Z : List Value, Z = cellsOf (List.replicate 16 0) := ⟨_, rfl⟩
  have HZ := Lib.hid hZ
  obtain ⟨Y, hY⟩ : ∃ Y : List UInt8, Y = List.replicate 12 0 ++ bs := ⟨_, rfl⟩
  have HY := Lib.hid hY
  have hY16 : (cellsOf Y).toArray.size = 16 := by rw [cells_size, hY]; simp [hl]
  have HYS := Lib.hid hY16
  have hup := unpacked4 bs hl
  rw [← hY] at hup
  have HUP := Lib.hid hup
  have hsl := slice_arr (w.heap.size + 1) 12 (by omega)
  have hsrc := Lib.hid (show ∀ j v, (cellsOf bs)[j]? = some v → w.cell? ⟨g, o + j, none⟩ = some v from fun j v hv => by
    simp only [cellsOf, List.getElem?_map, Option.map_eq_some_iff] at hv
    obtain ⟨u, hu, rfl⟩ := hv
    exact hcell j u hu)
  clear hZ hY hY16 hup hl hcell hr
  go_enter Try.func135, Try.ntmps135
  go_wp2_with (with_reducible refine wpList_copy_splice rfl (.tmp 9) (.tmp 10) 22 22 rfl 5 Try.underlying22 info_u8s _ _ _ _ _ _ rfl rfl (w.heap.size + 1) 12 Z 113 ?_ (cellsOf bs) ?_ ?_ ?_ (cellsOf_one _) (w.heap.size + 1) _ (Below.refl _ _) (Nat.le_refl _) ?_)
  · rw [HZ.out]
    exact heap_alloc2_new w _ _
  · rw [cellsOf_length, HL.out]
    rfl
  · exact fun _ => hsrc.out
  · rw [HZ.out, cellsOf_length, cellsOf_length, HL.out]
    decide
  · intro w4 hg4 hb4
    have r4 : Hid (w4.heap[w.heap.size + 1]? = some (.cells (cellsOf Y).toArray 113 (0, 0))) := Lib.hid (by rw [HY.out, ← splice_four bs HL.out, ← HZ.out]; exact hg4.out)
    have q4 := Lib.hid (row_on hb4 (g := w.heap.size) (by omega) (heap_alloc2_old w _ _))
    have B4 : Below w.heap.size w w4 := (Joins.below_alloc2 w _ _).trans (hb4.mono (by omega))
    clear hg4 hb4
    go_wp2_with (with_reducible refine wpList_load_row rfl 113 (.tmp 4) rfl (w.heap.size + 1) rfl 113 (cellsOf Y).toArray (0, 0) _ r4.out Try.underlying113 rfl (by rw [HYS.out]; exact info_arr) ?_)
    refine (HUP.out _).mono ?_
    rintro e w5 ⟨rfl, b5⟩
    have q5 := Lib.hid (row_on b5 (row_lt q4.out) q4.out)
    obtain ⟨⟨c0, c1, c2, c3, c4⟩, f0, f1, f2, f3, f4⟩ := row5 q5.out
    have B5 := bthen B4 b5
    go_wp2
    (try simp only [Exit.inBlock, Exit.then])
    refine bodyPost_ret (v := .tuple #[.agg #[.int .i64 4, .int .i64 0, .int .i64 0, .int .i64 0, .int .i64 (be bs)], .bool true]) ?_ rfl (ofOut_of HO.out.1 HO.out.2 (by go_grown))
    refine res_cell_tmp Try.results135 _ _ _ w.heap.size _ ?_ (run_loadVar_row _ _ 25 25 _ (0, 0) _ (set5 _ _ _ _ _ q5.out) Try.underlying25 rfl info_addr)
    rfl

set_option maxHeartbeats 400000 in
theorem implAddrOf_six (A : Option Addr) (c : Nat) (bs : List UInt8) (w : World) (hr : RB w w.heap.size A bs) (hl : bs.length = 16) : Calls Try.prog 135 #[.slice A 16 c] w (OfOut bs w) := by
  obtain ⟨g, o, rfl, hg, hcell⟩ := hr (by omega)
  have HO := Lib.hid (And.intro (ofA_six hl) (show okA bs = true by simp [okA, hl]))
  have HL := Lib.hid hl
  obtain ⟨Z, hZ⟩ : ∃ Z : List Value, Z = cellsOf (List.replicate 16 0) := ⟨_, rfl⟩
  have HZ := Lib.hid hZ
  have HYS := Lib.hid ((cells_size bs).trans hl)
  have hsl := slice_arr_all (w.heap.size + 1)
  have hsrc := Lib.hid (show ∀ j v, (cellsOf bs)[j]? = some v → w.cell? ⟨g, o + j, none⟩ = some v from fun j v hv => by
    simp only [cellsOf, List.getElem?_map, Option.map_eq_some_iff] at hv
    obtain ⟨u, hu, rfl⟩ := hv
    exact hcell j u hu)
  clear hZ hl hcell hr
  go_enter Try.func135, Try.ntmps135
  go_wp2_with (with_reducible refine wpList_copy_splice rfl (.tmp 16) (.tmp 17) 22 22 rfl 5 Try.underlying22 info_u8s _ _ _ _ _ _ rfl rfl (w.heap.size + 1) 0 Z 113 ?_ (cellsOf bs) ?_ ?_ ?_ (cellsOf_one _) (w.heap.size + 1) _ (Below.refl _ _) (Nat.le_refl _) ?_)
  · rw [HZ.out]
    exact heap_alloc2_new w _ _
  · rw [cellsOf_length, HL.out]
    rfl
  · exact fun _ => hsrc.out
  · rw [HZ.out, cellsOf_length, cellsOf_length, HL.out]
    decide
  · intro w4 hg4 hb4
    have r4 : Hid (w4.heap[w.heap.size + 1]? = some (.cells (cellsOf bs).toArray 113 (0, 0))) := Lib.hid (by rw [← splice_all bs HL.out, ← HZ.out]; exact hg4.out)
    have q4 := Lib.hid (row_on hb4 (g := w.heap.size) (by omega) (heap_alloc2_old w _ _))
    have B4 : Below w.heap.size w w4 := (Joins.below_alloc2 w _ _).trans (hb4.mono (by omega))
    clear hg4 hb4
    go_wp2_with (with_reducible refine wpList_load_row rfl 113 (.tmp 4) rfl (w.heap.size + 1) rfl 113 (cellsOf bs).toArray (0, 0) _ r4.out Try.underlying113 rfl (by rw [HYS.out]; exact info_arr) ?_)
    refine (unpackedC 6 bs HL.out _).mono ?_
    rintro e w5 ⟨rfl, b5⟩
    have q5 := Lib.hid (row_on b5 (row_lt q4.out) q4.out)
    obtain ⟨⟨c0, c1, c2, c3, c4⟩, f0, f1, f2, f3, f4⟩ := row5 q5.out
    have B5 := bthen B4 b5
    go_wp2
    (try simp only [Exit.inBlock, Exit.then])
    refine bodyPost_ret (v := .tuple #[.agg #[.int .i64 (unw 6 bs).k, .int .i64 (unw 6 bs).a, .int .i64 (unw 6 bs).b, .int .i64 (unw 6 bs).c, .int .i64 (unw 6 bs).d], .bool true]) ?_ rfl (ofOut_of HO.out.1 HO.out.2 (by go_grown))
    refine res_cell_tmp Try.results135 _ _ _ w.heap.size _ ?_ (run_loadVar_row _ _ 25 25 _ (0, 0) _ (set5 _ _ _ _ _ q5.out) Try.underlying25 rfl info_addr)
    rfl

set_option maxHeartbeats 400000 in
theorem implAddrOf (A : Option Addr) (n c : Nat) (bs : List UInt8) (w : World) (hr : RB w w.heap.size A bs) (hl : bs.length = n) (hn : n ≤ 1048576) : Calls Try.prog 135 #[.slice A n c] w (OfOut bs w) := by
  by_cases h4 : n = 4
  · subst h4
    exact implAddrOf_four A c bs w hr hl
  · by_cases h16 : n = 16
    · subst h16
      exact implAddrOf_six A c bs w hr hl
    · have HO := Lib.hid (And.intro (show ofA bs = Ad.zero by simp [ofA, hl, h4, h16]) (show okA bs = false by simp [okA, hl, h4, h16]))
      clear hr hl
      go_enter Try.func135, Try.ntmps135
      go_wp2
      go_returns
      exact ofOut_of HO.out.1 HO.out.2 (by go_grown)
end Go.Proofs.Ytkmijefheejcjaa
