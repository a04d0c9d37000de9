/-
  A stream key as plain data: two addresses, three integers; whether it is valid, and the key with its ends exchanged.
-/
import Derived.Test.YtmfkpiclpkeemaaUpLib
namespace Go.Proofs.Ytmfkpiclpkeemaa
set_option maxRecDepth 100000
open Go.RowKit

structure Ky where
  src : Ad
  dst : Ad
  proto : Int
  sport : Int
  dport : Int
deriving DecidableEq
def Ky.ok (k : Ky) : Bool := pairA k.src k.dst && upTo k.proto 255 && upTo k.sport 65535 && upTo k.dport 65535
def Ky.zero : Ky := ⟨⟨0, 0, 0, 0, 0⟩, ⟨0, 0, 0, 0, 0⟩, 0, 0, 0⟩
def Ky.turned (k : Ky) : Ky := if k.ok then ⟨k.dst, k.src, k.proto, k.dport, k.sport⟩ else Ky.zero
def Ky.val (k : Ky) : Value := .agg #[.int .i64 k.src.k, .int .i64 k.src.a, .int .i64 k.src.b, .int .i64 k.src.c, .int .i64 k.src.d, .int .i64 k.dst.k, .int .i64 k.dst.a, .int .i64 k.dst.b, .int .i64 k.dst.c, .int .i64 k.dst.d, .int .i64 k.proto, .int .i64 k.sport, .int .i64 k.dport]
theorem Ky.no1 {k : Ky} (h : pairA k.src k.dst = false) : k.ok = false := by simp [Ky.ok, h]
theorem Ky.no2 {k : Ky} (h : upTo k.proto 255 = false) : k.ok = false := by simp [Ky.ok, h]
theorem Ky.no3 {k : Ky} (h : upTo k.sport 65535 = false) : k.ok = false := by simp [Ky.ok, h]
theorem Ky.yes {k : Ky} (h1 : pairA k.src k.dst = true) (h2 : upTo k.proto 255 = true) (h3 : upTo k.sport 65535 = true) : k.ok = upTo k.dport 65535 := by simp [Ky.ok, h1, h2, h3]

section
variable {w : World} {g : Nat} {t : TypeId}
theorem K.cells13 {c0 c1 c2 c3 c4 c5 c6 c7 c8 c9 c10 c11 c12 : Value} (h : w.heap[g]? = some (.cells #[c0, c1, c2, c3, c4, c5, c6, c7, c8, c9, c10, c11, c12] t (0, 0))) : w.cell? ⟨g, 0, none⟩ = some c0 ∧ w.cell? ⟨g, 1, none⟩ = some c1 ∧ w.cell? ⟨g, 2, none⟩ = some c2 ∧ w.cell? ⟨g, 3, none⟩ = some c3 ∧ w.cell? ⟨g, 4, none⟩ = some c4 ∧ w.cell? ⟨g, 5, none⟩ = some c5 ∧ w.cell? ⟨g, 6, none⟩ = some c6 ∧ w.cell? ⟨g, 7, none⟩ = some c7 ∧ w.cell? ⟨g, 8, none⟩ = some c8 ∧ w.cell? ⟨g, 9, none⟩ = some c9 ∧ w.cell? ⟨g, 10, none⟩ = some c10 ∧ w.cell? ⟨g, 11, none⟩ = some c11 ∧ w.cell? ⟨g, 12, none⟩ = some c12 :=
  ⟨cell_of_row w g 0 _ _ _ h, cell_of_row w g 1 _ _ _ h, cell_of_row w g 2 _ _ _ h, cell_of_row w g 3 _ _ _ h, cell_of_row w g 4 _ _ _ h, cell_of_row w g 5 _ _ _ h, cell_of_row w g 6 _ _ _ h, cell_of_row w g 7 _ _ _ h, cell_of_row w g 8 _ _ _ h, cell_of_row w g 9 _ _ _ h, cell_of_row w g 10 _ _ _ h, cell_of_row w g 11 _ _ _ h, cell_of_row w g 12 _ _ _ h⟩
theorem K.frozen13 {c0 c1 c2 c3 c4 c5 c6 c7 c8 c9 c10 c11 c12 : Value} (h : w.heap[g]? = some (.cells #[c0, c1, c2, c3, c4, c5, c6, c7, c8, c9, c10, c11, c12] t (0, 0))) : w.frozen? ⟨g, 0, none⟩ = false ∧ w.frozen? ⟨g, 1, none⟩ = false ∧ w.frozen? ⟨g, 2, none⟩ = false ∧ w.frozen? ⟨g, 3, none⟩ = false ∧ w.frozen? ⟨g, 4, none⟩ = false ∧ w.frozen? ⟨g, 5, none⟩ = false ∧ w.frozen? ⟨g, 6, none⟩ = false ∧ w.frozen? ⟨g, 7, none⟩ = false ∧ w.frozen? ⟨g, 8, none⟩ = false ∧ w.frozen? ⟨g, 9, none⟩ = false ∧ w.frozen? ⟨g, 10, none⟩ = false ∧ w.frozen? ⟨g, 11, none⟩ = false ∧ w.frozen? ⟨g, 12, none⟩ = false :=
  ⟨frozen_of_row w g 0 _ _ h, frozen_of_row w g 1 _ _ h, frozen_of_row w g 2 _ _ h, frozen_of_row w g 3 _ _ h, frozen_of_row w g 4 _ _ h, frozen_of_row w g 5 _ _ h, frozen_of_row w g 6 _ _ h, frozen_of_row w g 7 _ _ h, frozen_of_row w g 8 _ _ h, frozen_of_row w g 9 _ _ h, frozen_of_row w g 10 _ _ h, frozen_of_row w g 11 _ _ h, frozen_of_row w g 12 _ _ h⟩
end
end Go.Proofs.Ytmfkpiclpkeemaa
