/-
  A struct as plain data: its fields, its cells.
-/
import Derived.Test.YtmfkpiclpkeemaaKeyLib
import Derived.Test.YtmfkpiclpkeemaaFlatLib
import Derived.Test.YtmfkpiclpkeemaaCells
namespace Go.Proofs.Ytmfkpiclpkeemaa
set_option maxRecDepth 100000
open Go.RowKit

structure Fk where
  tenant : Int
  key : Ky
deriving DecidableEq
def Fk.val (x : Fk) : Value := .agg #[.int .i64 x.tenant, .int .i64 x.key.src.k, .int .i64 x.key.src.a, .int .i64 x.key.src.b, .int .i64 x.key.src.c, .int .i64 x.key.src.d, .int .i64 x.key.dst.k, .int .i64 x.key.dst.a, .int .i64 x.key.dst.b, .int .i64 x.key.dst.c, .int .i64 x.key.dst.d, .int .i64 x.key.proto, .int .i64 x.key.sport, .int .i64 x.key.dport]
def Fk.cells (x : Fk) : List Value := [.int .i64 x.tenant, .int .i64 x.key.src.k, .int .i64 x.key.src.a, .int .i64 x.key.src.b, .int .i64 x.key.src.c, .int .i64 x.key.src.d, .int .i64 x.key.dst.k, .int .i64 x.key.dst.a, .int .i64 x.key.dst.b, .int .i64 x.key.dst.c, .int .i64 x.key.dst.d, .int .i64 x.key.proto, .int .i64 x.key.sport, .int .i64 x.key.dport]
def Fk.zero : Fk := ⟨0, Ky.zero⟩
theorem Fk.cells_length (x : Fk) : x.cells.length = 14 := rfl
theorem Fk.cells_one (x : Fk) : ∀ u ∈ x.cells, u.oneCell' = true := by
  intro u hu
  simp only [Fk.cells, List.mem_cons, List.not_mem_nil, or_false] at hu
  rcases hu with rfl | rfl | rfl | rfl | rfl | rfl | rfl | rfl | rfl | rfl | rfl | rfl | rfl | rfl <;> rfl

section
variable {w : World} {g : Nat} {t : TypeId}
theorem K.fk {c0 c1 c2 c3 c4 c5 c6 c7 c8 c9 c10 c11 c12 c13 : Value} (h : w.heap[g]? = some (.cells #[c0, c1, c2, c3, c4, c5, c6, c7, c8, c9, c10, c11, c12, c13] t (0, 0))) : w.cell? ⟨g, 0, none⟩ = some c0 ∧ w.cell? ⟨g, 1, none⟩ = some c1 ∧ w.cell? ⟨g, 2, none⟩ = some c2 ∧ w.cell? ⟨g, 3, none⟩ = some c3 ∧ w.cell? ⟨g, 4, none⟩ = some c4 ∧ w.cell? ⟨g, 5, none⟩ = some c5 ∧ w.cell? ⟨g, 6, none⟩ = some c6 ∧ w.cell? ⟨g, 7, none⟩ = some c7 ∧ w.cell? ⟨g, 8, none⟩ = some c8 ∧ w.cell? ⟨g, 9, none⟩ = some c9 ∧ w.cell? ⟨g, 10, none⟩ = some c10 ∧ w.cell? ⟨g, 11, none⟩ = some c11 ∧ w.cell? ⟨g, 12, none⟩ = some c12 ∧ w.cell? ⟨g, 13, none⟩ = some c13 :=
  ⟨cell_of_row w g 0 _ _ _ h, cell_of_row w g 1 _ _ _ h, cell_of_row w g 2 _ _ _ h, cell_of_row w g 3 _ _ _ h, cell_of_row w g 4 _ _ _ h, cell_of_row w g 5 _ _ _ h, cell_of_row w g 6 _ _ _ h, cell_of_row w g 7 _ _ _ h, cell_of_row w g 8 _ _ _ h, cell_of_row w g 9 _ _ _ h, cell_of_row w g 10 _ _ _ h, cell_of_row w g 11 _ _ _ h, cell_of_row w g 12 _ _ _ h, cell_of_row w g 13 _ _ _ h⟩
end
end Go.Proofs.Ytmfkpiclpkeemaa
