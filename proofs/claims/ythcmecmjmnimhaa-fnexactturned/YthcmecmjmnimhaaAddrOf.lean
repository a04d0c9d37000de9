/-
  AddrOf in the program and in the model.
-/
import Derived.Test.YthcmecmjmnimhaaAddrImpl
import Derived.Laws.ResultCell
namespace Go.Proofs.Ythcmecmjmnimhaa
set_option maxRecDepth 100000
open Go.RowKit

/-- The address of bytes: of four, of sixteen. -/
def ofA (bs : List UInt8) : Ad := if bs.length = 4 then ⟨4, 0, 0, 0, be bs⟩ else if bs.length = 16 then unw 6 bs else Ad.zero
def okA (bs : List UInt8) : Bool := decide (bs.length = 4) || decide (bs.length = 16)
def OfOut (bs : List UInt8) (w : World) (e : Ending) (w' : World) : Prop := e = .returned (.tuple #[.agg #[.int .i64 (ofA bs).k, .int .i64 (ofA bs).a, .int .i64 (ofA bs).b, .int .i64 (ofA bs).c, .int .i64 (ofA bs).d], .bool (okA bs)]) ∧ Below w.heap.size w w'
theorem ofOut_of {bs : List UInt8} {y : Ad} {ok : Bool} {w w' : World} (h1 : ofA bs = y) (h2 : okA bs = ok) (hb : Below w.heap.size w w') : OfOut bs w (.returned (.tuple #[.agg #[.int .i64 y.k, .int .i64 y.a, .int .i64 y.b, .int .i64 y.c, .int .i64 y.d], .bool ok])) w' := by
  subst h1
  subst h2
  exact ⟨rfl, hb⟩
theorem ofA_four {bs : List UInt8} (h : bs.length = 4) : ofA bs = ⟨4, 0, 0, 0, be bs⟩ := by simp [ofA, h]
theorem ofA_six {bs : List UInt8} (h : bs.length = 16) : ofA bs = unw 6 bs := by simp [ofA, h]
theorem unw_four (bs : List UInt8) (h : bs.length = 4) : unw 4 (List.replicate 12 0 ++ bs) = ⟨4, 0, 0, 0, be bs⟩ := by
  obtain ⟨p, q, r, s, rfl⟩ := len4 h
  simp [unw, be]

/-- The cells of a block of five that may be written. -/
theorem row5 {w : World} {g : Nat} {v0 v1 v2 v3 v4 : Value} {t : TypeId} (h : w.heap[g]? = some (.cells #[v0, v1, v2, v3, v4] t (0, 0))) :
    (w.cell? ⟨g, 0, none⟩ = some v0 ∧ w.cell? ⟨g, 1, none⟩ = some v1 ∧ w.cell? ⟨g, 2, none⟩ = some v2 ∧ w.cell? ⟨g, 3, none⟩ = some v3 ∧ w.cell? ⟨g, 4, none⟩ = some v4) ∧
      (w.frozen? ⟨g, 0, none⟩ = false ∧ w.frozen? ⟨g, 1, none⟩ = false ∧ w.frozen? ⟨g, 2, none⟩ = false ∧ w.frozen? ⟨g, 3, none⟩ = false ∧ w.frozen? ⟨g, 4, none⟩ = false) :=
  ⟨⟨cell_of_row w g 0 _ _ _ h, cell_of_row w g 1 _ _ _ h, cell_of_row w g 2 _ _ _ h, cell_of_row w g 3 _ _ _ h, cell_of_row w g 4 _ _ _ h⟩,
    ⟨frozen_of_row w g 0 _ _ h, frozen_of_row w g 1 _ _ h, frozen_of_row w g 2 _ _ h, frozen_of_row w g 3 _ _ h, frozen_of_row w g 4 _ _ h⟩⟩
theorem set5 {w : World} {g : Nat} {a0 a1 a2 a3 a4 : Value} {t : TypeId} (v0 v1 v2 v3 v4 : Value) (h : w.heap[g]? = some (.cells #[a0, a1, a2, a3, a4] t (0, 0))) :
    (((((w.setCell ⟨g, 0, none⟩ v0).setCell ⟨g, 1, none⟩ v1).setCell ⟨g, 2, none⟩ v2).setCell ⟨g, 3, none⟩ v3).setCell ⟨g, 4, none⟩ v4).heap[g]? = some (.cells #[v0, v1, v2, v3, v4] t (0, 0)) :=
  heap_setCell_same _ g 4 #[v0, v1, v2, v3, a4] t v4 (heap_setCell_same _ g 3 #[v0, v1, v2, a3, a4] t v3 (heap_setCell_same _ g 2 #[v0, v1, a2, a3, a4] t v2 (heap_setCell_same _ g 1 #[v0, a1, a2, a3, a4] t v1 (heap_setCell_same _ g 0 _ t v0 h))))
theorem res_cell_tmp {fn : Func} {p u : Tmp} {ty : TypeId} (h : fn.results = #[.cell p ty, .tmp u]) (tmps : Array Value) (P : Program) (w : World) (g : Nat) (cs : Array Value)
    (hp : tmps.getD p undef = .pointer (some ⟨g, 0, none⟩)) (hld : (loadVar ty ⟨g, 0, none⟩).run P w = .ok (.agg cs) w) :
    (results fn tmps).run P w = .ok (.tuple #[.agg cs, tmps.getD u undef]) w := by
  rw [results_cell_tmp h, hp]
  simp [asAddr, Result.andThen, hld]
theorem info_addr : (Try.prog.info? 27).map (·.size) = some 5 := by kernel_rfl
theorem new_row {w w' : World} {o : Obj} (b : Below (w.alloc o).heap.size (w.alloc o) w') : w'.heap[w.heap.size]? = some o := row_on b (by simp) (Go.heap_alloc_last w o)

end Go.Proofs.Ythcmecmjmnimhaa
