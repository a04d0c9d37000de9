/-
  A struct as plain data: its fields, its cells.
-/
import Derived.Test.YtdndanbalmoklaaAddrLib
import Derived.Test.YtdndanbalmoklaaFlatLib
import Derived.Test.YtdndanbalmoklaaCells
namespace Go.Proofs.Ytdndanbalmoklaa
set_option maxRecDepth 100000
open Go.RowKit

structure Mo where
  kind : Int
  frm : Pf
  to : Pf
  proto : Int
  lo : Int
  hi : Int
  n : Int
deriving DecidableEq
def Mo.val (x : Mo) : Value := .agg #[.int .i64 x.kind, .int .i64 x.frm.base.k, .int .i64 x.frm.base.a, .int .i64 x.frm.base.b, .int .i64 x.frm.base.c, .int .i64 x.frm.base.d, .int .i64 x.frm.len, .int .i64 x.to.base.k, .int .i64 x.to.base.a, .int .i64 x.to.base.b, .int .i64 x.to.base.c, .int .i64 x.to.base.d, .int .i64 x.to.len, .int .i64 x.proto, .int .i64 x.lo, .int .i64 x.hi, .int .i64 x.n]
def Mo.cells (x : Mo) : List Value := [.int .i64 x.kind, .int .i64 x.frm.base.k, .int .i64 x.frm.base.a, .int .i64 x.frm.base.b, .int .i64 x.frm.base.c, .int .i64 x.frm.base.d, .int .i64 x.frm.len, .int .i64 x.to.base.k, .int .i64 x.to.base.a, .int .i64 x.to.base.b, .int .i64 x.to.base.c, .int .i64 x.to.base.d, .int .i64 x.to.len, .int .i64 x.proto, .int .i64 x.lo, .int .i64 x.hi, .int .i64 x.n]
def Mo.zero : Mo := ⟨0, Pf.zero, Pf.zero, 0, 0, 0, 0⟩
theorem Mo.cells_length (x : Mo) : x.cells.length = 17 := rfl
theorem Mo.cells_one (x : Mo) : ∀ u ∈ x.cells, u.oneCell' = true := by
  intro u hu
  simp only [Mo.cells, List.mem_cons, List.not_mem_nil, or_false] at hu
  rcases hu with rfl | rfl | rfl | rfl | rfl | rfl | rfl | rfl | rfl | rfl | rfl | rfl | rfl | rfl | rfl | rfl | rfl <;> rfl

section
variable {w : World} {g : Nat} {t : TypeId}
theorem K.mo {c0 c1 c2 c3 c4 c5 c6 c7 c8 c9 c10 c11 c12 c13 c14 c15 c16 : Value} (h : w.heap[g]? = some (.cells #[c0, c1, c2, c3, c4, c5, c6, c7, c8, c9, c10, c11, c12, c13, c14, c15, c16] t (0, 0))) : w.cell? ⟨g, 0, none⟩ = some c0 ∧ w.cell? ⟨g, 1, none⟩ = some c1 ∧ w.cell? ⟨g, 2, none⟩ = some c2 ∧ w.cell? ⟨g, 3, none⟩ = some c3 ∧ w.cell? ⟨g, 4, none⟩ = some c4 ∧ w.cell? ⟨g, 5, none⟩ = some c5 ∧ w.cell? ⟨g, 6, none⟩ = some c6 ∧ w.cell? ⟨g, 7, none⟩ = some c7 ∧ w.cell? ⟨g, 8, none⟩ = some c8 ∧ w.cell? ⟨g, 9, none⟩ = some c9 ∧ w.cell? ⟨g, 10, none⟩ = some c10 ∧ w.cell? ⟨g, 11, none⟩ = some c11 ∧ w.cell? ⟨g, 12, none⟩ = some c12 ∧ w.cell? ⟨g, 13, none⟩ = some c13 ∧ w.cell? ⟨g, 14, none⟩ = some c14 ∧ w.cell? ⟨g, 15, none⟩ = some c15 ∧ w.cell? ⟨g, 16, none⟩ = some c16 :=
  ⟨cell_of_row w g 0 _ _ _ h, cell_of_row w g 1 _ _ _ h, cell_of_row w g 2 _ _ _ h, cell_of_row w g 3 _ _ _ h, cell_of_row w g 4 _ _ _ h, cell_of_row w g 5 _ _ _ h, cell_of_row w g 6 _ _ _ h, cell_of_row w g 7 _ _ _ h, cell_of_row w g 8 _ _ _ h, cell_of_row w g 9 _ _ _ h, cell_of_row w g 10 _ _ _ h, cell_of_row w g 11 _ _ _ h, cell_of_row w g 12 _ _ _ h, cell_of_row w g 13 _ _ _ h, cell_of_row w g 14 _ _ _ h, cell_of_row w g 15 _ _ _ h, cell_of_row w g 16 _ _ _ h⟩
end
end Go.Proofs.Ytdndanbalmoklaa
