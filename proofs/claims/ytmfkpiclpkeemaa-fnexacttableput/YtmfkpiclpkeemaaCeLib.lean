/-
  A struct as plain data: its fields, its cells.
-/
import Derived.Test.YtmfkpiclpkeemaaFkLib
import Derived.Test.YtmfkpiclpkeemaaFlatLib
import Derived.Test.YtmfkpiclpkeemaaCells
namespace Go.Proofs.Ytmfkpiclpkeemaa
set_option maxRecDepth 100000
open Go.RowKit

structure Ce where
  used : Bool
  key : Fk
  num : Int
deriving DecidableEq
def Ce.val (x : Ce) : Value := .agg #[.bool x.used, .int .i64 x.key.tenant, .int .i64 x.key.key.src.k, .int .i64 x.key.key.src.a, .int .i64 x.key.key.src.b, .int .i64 x.key.key.src.c, .int .i64 x.key.key.src.d, .int .i64 x.key.key.dst.k, .int .i64 x.key.key.dst.a, .int .i64 x.key.key.dst.b, .int .i64 x.key.key.dst.c, .int .i64 x.key.key.dst.d, .int .i64 x.key.key.proto, .int .i64 x.key.key.sport, .int .i64 x.key.key.dport, .int .i64 x.num]
def Ce.cells (x : Ce) : List Value := [.bool x.used, .int .i64 x.key.tenant, .int .i64 x.key.key.src.k, .int .i64 x.key.key.src.a, .int .i64 x.key.key.src.b, .int .i64 x.key.key.src.c, .int .i64 x.key.key.src.d, .int .i64 x.key.key.dst.k, .int .i64 x.key.key.dst.a, .int .i64 x.key.key.dst.b, .int .i64 x.key.key.dst.c, .int .i64 x.key.key.dst.d, .int .i64 x.key.key.proto, .int .i64 x.key.key.sport, .int .i64 x.key.key.dport, .int .i64 x.num]
def Ce.zero : Ce := ⟨false, Fk.zero, 0⟩
theorem Ce.cells_length (x : Ce) : x.cells.length = 16 := rfl
theorem Ce.cells_one (x : Ce) : ∀ u ∈ x.cells, u.oneCell' = true := by
  intro u hu
  simp only [Ce.cells, List.mem_cons, List.not_mem_nil, or_false] at hu
  rcases hu with rfl | rfl | rfl | rfl | rfl | rfl | rfl | rfl | rfl | rfl | rfl | rfl | rfl | rfl | rfl | rfl <;> rfl

section
variable {w : World} {g : Nat} {t : TypeId}
theorem K.ce {c0 c1 c2 c3 c4 c5 c6 c7 c8 c9 c10 c11 c12 c13 c14 c15 : Value} (h : w.heap[g]? = some (.cells #[c0, c1, c2, c3, c4, c5, c6, c7, c8, c9, c10, c11, c12, c13, c14, c15] t (0, 0))) : w.cell? ⟨g, 0, none⟩ = some c0 ∧ w.cell? ⟨g, 1, none⟩ = some c1 ∧ w.cell? ⟨g, 2, none⟩ = some c2 ∧ w.cell? ⟨g, 3, none⟩ = some c3 ∧ w.cell? ⟨g, 4, none⟩ = some c4 ∧ w.cell? ⟨g, 5, none⟩ = some c5 ∧ w.cell? ⟨g, 6, none⟩ = some c6 ∧ w.cell? ⟨g, 7, none⟩ = some c7 ∧ w.cell? ⟨g, 8, none⟩ = some c8 ∧ w.cell? ⟨g, 9, none⟩ = some c9 ∧ w.cell? ⟨g, 10, none⟩ = some c10 ∧ w.cell? ⟨g, 11, none⟩ = some c11 ∧ w.cell? ⟨g, 12, none⟩ = some c12 ∧ w.cell? ⟨g, 13, none⟩ = some c13 ∧ w.cell? ⟨g, 14, none⟩ = some c14 ∧ w.cell? ⟨g, 15, none⟩ = some c15 :=
  ⟨cell_of_row w g 0 _ _ _ h, cell_of_row w g 1 _ _ _ h, cell_of_row w g 2 _ _ _ h, cell_of_row w g 3 _ _ _ h, cell_of_row w g 4 _ _ _ h, cell_of_row w g 5 _ _ _ h, cell_of_row w g 6 _ _ _ h, cell_of_row w g 7 _ _ _ h, cell_of_row w g 8 _ _ _ h, cell_of_row w g 9 _ _ _ h, cell_of_row w g 10 _ _ _ h, cell_of_row w g 11 _ _ _ h, cell_of_row w g 12 _ _ _ h, cell_of_row w g 13 _ _ _ h, cell_of_row w g 14 _ _ _ h, cell_of_row w g 15 _ _ _ h⟩
end
end Go.Proofs.Ytmfkpiclpkeemaa
