/-
  A classification rule as plain data: a number, two prefixes, eight numbers; whether it is valid, which keys it matches, which rules it covers.
-/
import Derived.Test.YtmfkpiclpkeemaaKeyLib
import Derived.Test.YtmfkpiclpkeemaaAddrLib
namespace Go.Proofs.Ytmfkpiclpkeemaa
set_option maxRecDepth 100000
open Go.RowKit

structure Ru where
  prio : Int
  src : Pf
  dst : Pf
  proto : Int
  slo : Int
  shi : Int
  dlo : Int
  dhi : Int
  tenant : Int
  weight : Int
  chain : Int
deriving DecidableEq
def btw (lo n hi : Int) : Bool := decide (lo ≤ n ∧ n ≤ hi)
def portsB (lo hi : Int) : Bool := decide (0 ≤ lo ∧ lo ≤ hi ∧ hi ≤ 65535)
def Ru.val (r : Ru) : Value := .agg #[.int .i64 r.prio, .int .i64 r.src.base.k, .int .i64 r.src.base.a, .int .i64 r.src.base.b, .int .i64 r.src.base.c, .int .i64 r.src.base.d, .int .i64 r.src.len, .int .i64 r.dst.base.k, .int .i64 r.dst.base.a, .int .i64 r.dst.base.b, .int .i64 r.dst.base.c, .int .i64 r.dst.base.d, .int .i64 r.dst.len, .int .i64 r.proto, .int .i64 r.slo, .int .i64 r.shi, .int .i64 r.dlo, .int .i64 r.dhi, .int .i64 r.tenant, .int .i64 r.weight, .int .i64 r.chain]
def Ru.cells (r : Ru) : List Value := [.int .i64 r.prio, .int .i64 r.src.base.k, .int .i64 r.src.base.a, .int .i64 r.src.base.b, .int .i64 r.src.base.c, .int .i64 r.src.base.d, .int .i64 r.src.len, .int .i64 r.dst.base.k, .int .i64 r.dst.base.a, .int .i64 r.dst.base.b, .int .i64 r.dst.base.c, .int .i64 r.dst.base.d, .int .i64 r.dst.len, .int .i64 r.proto, .int .i64 r.slo, .int .i64 r.shi, .int .i64 r.dlo, .int .i64 r.dhi, .int .i64 r.tenant, .int .i64 r.weight, .int .i64 r.chain]
def Ru.zero : Ru := ⟨0, Pf.zero, Pf.zero, 0, 0, 0, 0, 0, 0, 0, 0⟩
def Ru.ok (r : Ru) : Bool := btw 1 r.prio 9999 && r.src.ok && r.dst.ok && btw (-1) r.proto 255 && portsB r.slo r.shi && portsB r.dlo r.dhi && btw 1 r.tenant 8 && btw 1 r.weight 10 && btw 1 r.chain 8
/-- Do the ranges of the rule hold the key? -/
def Ru.hits (r : Ru) (k : Ky) : Bool := r.src.has k.src && r.dst.has k.dst && (r.proto == -1 || r.proto == k.proto) && btw r.slo k.sport r.shi && btw r.dlo k.dport r.dhi
def Ru.has (r : Ru) (k : Ky) : Bool := r.ok && k.ok && r.hits k
def Ru.covers (r s : Ru) : Bool := r.ok && s.ok && s.src.inn r.src && s.dst.inn r.dst && (r.proto == -1 || r.proto == s.proto) && decide (r.slo ≤ s.slo) && decide (s.shi ≤ r.shi) && decide (r.dlo ≤ s.dlo) && decide (s.dhi ≤ r.dhi)

section
variable {w : World} {g : Nat} {t : TypeId}
theorem K.cells21 {c0 c1 c2 c3 c4 c5 c6 c7 c8 c9 c10 c11 c12 c13 c14 c15 c16 c17 c18 c19 c20 : Value} (h : w.heap[g]? = some (.cells #[c0, c1, c2, c3, c4, c5, c6, c7, c8, c9, c10, c11, c12, c13, c14, c15, c16, c17, c18, c19, c20] t (0, 0))) : w.cell? ⟨g, 0, none⟩ = some c0 ∧ w.cell? ⟨g, 1, none⟩ = some c1 ∧ w.cell? ⟨g, 2, none⟩ = some c2 ∧ w.cell? ⟨g, 3, none⟩ = some c3 ∧ w.cell? ⟨g, 4, none⟩ = some c4 ∧ w.cell? ⟨g, 5, none⟩ = some c5 ∧ w.cell? ⟨g, 6, none⟩ = some c6 ∧ w.cell? ⟨g, 7, none⟩ = some c7 ∧ w.cell? ⟨g, 8, none⟩ = some c8 ∧ w.cell? ⟨g, 9, none⟩ = some c9 ∧ w.cell? ⟨g, 10, none⟩ = some c10 ∧ w.cell? ⟨g, 11, none⟩ = some c11 ∧ w.cell? ⟨g, 12, none⟩ = some c12 ∧ w.cell? ⟨g, 13, none⟩ = some c13 ∧ w.cell? ⟨g, 14, none⟩ = some c14 ∧ w.cell? ⟨g, 15, none⟩ = some c15 ∧ w.cell? ⟨g, 16, none⟩ = some c16 ∧ w.cell? ⟨g, 17, none⟩ = some c17 ∧ w.cell? ⟨g, 18, none⟩ = some c18 ∧ w.cell? ⟨g, 19, none⟩ = some c19 ∧ w.cell? ⟨g, 20, none⟩ = some c20 :=
  ⟨cell_of_row w g 0 _ _ _ h, cell_of_row w g 1 _ _ _ h, cell_of_row w g 2 _ _ _ h, cell_of_row w g 3 _ _ _ h, cell_of_row w g 4 _ _ _ h, cell_of_row w g 5 _ _ _ h, cell_of_row w g 6 _ _ _ h, cell_of_row w g 7 _ _ _ h, cell_of_row w g 8 _ _ _ h, cell_of_row w g 9 _ _ _ h, cell_of_row w g 10 _ _ _ h, cell_of_row w g 11 _ _ _ h, cell_of_row w g 12 _ _ _ h, cell_of_row w g 13 _ _ _ h, cell_of_row w g 14 _ _ _ h, cell_of_row w g 15 _ _ _ h, cell_of_row w g 16 _ _ _ h, cell_of_row w g 17 _ _ _ h, cell_of_row w g 18 _ _ _ h, cell_of_row w g 19 _ _ _ h, cell_of_row w g 20 _ _ _ h⟩
end
end Go.Proofs.Ytmfkpiclpkeemaa
