/-
  AddrOf in the program and in the model.
-/
import Derived.Test.YtdndanbalmoklaaAddrImpl
import Derived.Laws.ResultCell
namespace Go.Proofs.Ytdndanbalmoklaa
set_option maxRecDepth 100000
open Go.RowKit

/-- The address of bytes: of four, of sixteen. -/
def ofA (bs : List UInt8) : Ad := if bs.length = 4 then ⟨4, 0, 0, 0, be bs⟩ else if bs.length = 16 then unw 6 bs else Ad.zero
def okA (bs : List UInt8) : Bool := decide (bs.length = 4) || decide (bs.length = 16)
def OfOut (bs : List UInt8) (w : World) (e : Ending) (w' : World) : Prop := e = .returned (.tuple #[.agg #[.int .i64 (ofA bs).k, .int .i64 (ofA bs).a, .int .i64 (ofA bs).b, .int .i64 (ofA bs).c, .int .i64 (ofA bs).d], .bool (okA bs)]) ∧ Below w.heap.size w w'
theorem ofOut_of {bs : List UInt8} {y : Ad} {ok : Bool} {w w' : World} (h1 : ofA bs = y) (h2 : okA bs = ok) (hb : Below w.heap.size w w') : OfOut bs w (.returned (.tuple #[.agg #[.int .i64 y.k, .int .i64 y.a, .int .i64 y.b, .int .i64 y.c, .int .i64 y.d], .bool ok])) w' := by
  subst h1
  subst h2
  exact ⟨rfl, hb⟩
theorem ofA_four {bs : List UInt8} (h : bs.length = 4) : ofA bs = ⟨4, 0, 0, 0, be bs⟩ := by simp [ofA, h]
theorem ofA_six {bs : List UInt8} (h : bs.length = 16) : ofA bs = unw 6 bs := by simp [ofA, h]
theorem unw_four (bs : List UInt8) (h : bs.length = 4) : unw 4 (List.replicate 12 0 ++ bs) = ⟨4, 0, 0, 0, be bs⟩ := by
  obtain ⟨p, q, r, s, rfl⟩ := len4 h
  simp [unw, be]

/-- The cells of a block of five that may be written. -/
theorem row5 {w : World} {g : Nat} {v0 v1 v2 v3 v4 : Value} {t : TypeId} (h : w.heap[g]? = some (.cells #[v0, v1, v2, v3, v4] t (0, 0))) :
    (w.cell? ⟨g, 0, none⟩ = some v0 ∧ w.cell? ⟨g, 1, none⟩ = some v1 ∧ w.cell? ⟨g, 2, none⟩ = some v2 ∧ w.cell? ⟨g, 3, none⟩ = some v3 ∧ w.cell? ⟨g, 4, none⟩ = some v4) ∧
      (w.frozen? ⟨g, 0, none⟩ = false ∧ w.frozen? ⟨g, 1, none⟩ = false ∧ w.frozen? ⟨g, 2, none⟩ = false ∧ w.frozen? ⟨g, 3, none⟩ = false ∧ w.frozen? ⟨g, 4, none⟩ = false) :=
  ⟨⟨cell_of_row w g 0 _ _ _ h, cell_of_row w g 1 _ _ _ h, cell_of_row w g 2 _ _ _ h, cell_of_row w g 3 _ _ _ h, cell_of_row w g 4 _ _ _ h⟩,
    ⟨frozen_of_row w g 0 _ _ h, frozen_of_row w g 1 _ _ h, frozen_of_row w g 2 _ _ h, frozen_of_row w g 3 _ _ h, frozen_of_row w g 4 _ _ h⟩⟩
theorem set5 {w : World} {g : Nat} {a0 a1 a2 a3 a4 : Value} {t : TypeId} (v0 v1 v2 v3 v4 : Value) (h : w.heap[g]? = some (.cells #[a0, a1, a2, a3, a4] t (0, 0))) :
    (((((w.setCell ⟨g, 0, none⟩ v0).setCell ⟨g, 1, none⟩ v1).setCell ⟨g, 2, none⟩ v2).setCell ⟨g, 3, none⟩ v3).setCell ⟨g, 4, none⟩ v4).heap[g]? = some (.cells #[v0, v1, v2, v3, v4] t (0, 0)) :=
  heap_setCell_same _ g 4 #[v0, v1, v2, v3, a4] t v4 (heap_setCell_same _ g 3 #[v0, v1, v2, a3, a4] t v3 (heap_setCell_same _ g 2 #[v0, v1, a2, a3, a4] t v2 (heap_setCell_same _ g 1 #[v0, a1, a2, a3, a4] t v1 (heap_setCell_same _ g 0 _ t v0 h))))
theorem res_cell_tmp {fn : Func} {p u : Tmp} {ty : TypeId} (h : fn.results = #[.cell p ty, .tmp u]) (tmps : Array Value) (P : Program) (w : World) (g : Nat) (cs : Array Value)
    (hp : tmps.getD p undef = .pointer (some ⟨g, 0, none⟩)) (hld : (loadVar ty ⟨g, 0, none⟩).run P w = .ok (.agg cs) w) :
    (results fn tmps).run P w = .ok (.tuple #[.agg cs, tmps.getD u undef]) w := by
  rw [results_cell_tmp h, hp]
  simp [asAddr, Result.andThen, hld]
theorem info_addr : (Try.prog.info? 29).map (·.size) = some 5 := by kernel_rfl
theorem new_row {w w' : World} {o : Obj} (b : Below (w.alloc o).heap.size (w.alloc o) w') : w'.heap[w.heap.size]? = some o := row_on b (by simp) (Go.heap_alloc_last w o)

set_option maxHeartbeats 400000 in
theorem specAddrOf (A : Option Addr) (n c : Nat) (bs : List UInt8) (w : World) (hr : RB w w.heap.size A bs) (hl : bs.length = n) (hn : n ≤ 1048576) : Calls Try.prog 83 #[.slice A n c] w (OfOut bs w) := by
  have hr1 : ∀ o, RB (w.alloc o) (w.alloc o).heap.size A bs := fun o => (hr.below (Joins.below_alloc1 w o)).more (by simp)
  have HR := Lib.hid hr1
  have HL := Lib.hid hl
  by_cases h4 : n = 4
  · subst h4
    have HO := Lib.hid (And.intro (ofA_four hl) (show okA bs = true by simp [okA, hl]))
    have e4 := Lib.hid (show (bs.drop 0).take 4 = bs from List.take_of_length_le (by simp; omega))
    clear hr1 hl
    go_enter Try.func83, Try.ntmps83
    go_wp2_with fail
    refine (specBe32 A 4 c bs 0 _ (HR.out _) HL.out (by omega) (by omega)).mono ?_
    rintro e w1 ⟨rfl, b1⟩
    rw [e4.out]
    obtain ⟨⟨c0, c1, c2, c3, c4⟩, f0, f1, f2, f3, f4⟩ := row5 (new_row b1)
    go_wp2
    (try simp only [Exit.inBlock, Exit.then])
    refine bodyPost_ret (v := .tuple #[.agg #[.int .i64 4, .int .i64 0, .int .i64 0, .int .i64 0, .int .i64 (be bs)], .bool true]) ?_ rfl (ofOut_of HO.out.1 HO.out.2 (by have := bthen (Joins.below_alloc1 w _) b1; go_grown))
    refine res_cell_tmp Try.results83 _ _ _ w.heap.size _ ?_ (run_loadVar_row _ _ 29 29 _ (0, 0) _ (set5 _ _ _ _ _ (new_row b1)) Try.underlying29 rfl info_addr)
    rfl
  · by_cases h16 : n = 16
    · subst h16
      have HO := Lib.hid (And.intro (ofA_six hl) (show okA bs = true by simp [okA, hl]))
      clear hr1 hl
      go_enter Try.func83, Try.ntmps83
      go_wp2_with fail
      refine (specBe32 A 16 c bs 0 _ (HR.out _) HL.out (by omega) (by omega)).mono ?_
      rintro e w1 ⟨rfl, b1⟩
      have r1 := ((HR.out _).below b1).more b1.size
      go_wp2_with fail
      refine (specBe32 A 16 c bs 4 _ r1 HL.out (by omega) (by omega)).mono ?_
      rintro e w2 ⟨rfl, b2⟩
      have r2 := (r1.below b2).more b2.size
      go_wp2_with fail
      refine (specBe32 A 16 c bs 8 _ r2 HL.out (by omega) (by omega)).mono ?_
      rintro e w3 ⟨rfl, b3⟩
      have r3 := (r2.below b3).more b3.size
      go_wp2_with fail
      refine (specBe32 A 16 c bs 12 _ r3 HL.out (by omega) (by omega)).mono ?_
      rintro e w4 ⟨rfl, b4⟩
      have B4 := bthen (bthen (bthen b1 b2) b3) b4
      obtain ⟨⟨c0, c1, c2, c3, c4⟩, f0, f1, f2, f3, f4⟩ := row5 (new_row B4)
      have B5 := bthen (Joins.below_alloc1 w _) B4
      have N5 := Lib.hid (new_row B4)
      clear b1 b2 b3 b4 B4 r1 r2 r3
      go_wp2
      (try simp only [Exit.inBlock, Exit.then])
      refine bodyPost_ret (v := .tuple #[.agg #[.int .i64 (unw 6 bs).k, .int .i64 (unw 6 bs).a, .int .i64 (unw 6 bs).b, .int .i64 (unw 6 bs).c, .int .i64 (unw 6 bs).d], .bool true]) ?_ rfl (ofOut_of HO.out.1 HO.out.2 (by go_grown))
      refine res_cell_tmp Try.results83 _ _ _ w.heap.size _ ?_ (run_loadVar_row _ _ 29 29 _ (0, 0) _ (set5 _ _ _ _ _ N5.out) Try.underlying29 rfl info_addr)
      rfl
    · have HO := Lib.hid (And.intro (show ofA bs = Ad.zero by simp [ofA, hl, h4, h16]) (show okA bs = false by simp [okA, hl, h4, h16]))
      clear hr1 hl
      go_enter Try.func83, Try.ntmps83
      go_wp2
      go_returns
      exact ofOut_of HO.out.1 HO.out.2 (by go_grown)
end Go.Proofs.Ytdndanbalmoklaa
