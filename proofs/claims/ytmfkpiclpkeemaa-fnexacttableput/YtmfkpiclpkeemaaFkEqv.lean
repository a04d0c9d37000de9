/-
  Equality of two structs, as the model has it.
-/
import Derived.Test.YtmfkpiclpkeemaaFkLib
namespace Go.Proofs.Ytmfkpiclpkeemaa
set_option maxRecDepth 100000
open Go.RowKit

theorem Fk.ext_flat (x y : Fk) : x = y ↔ x.tenant = y.tenant ∧ x.key.src.k = y.key.src.k ∧ x.key.src.a = y.key.src.a ∧ x.key.src.b = y.key.src.b ∧ x.key.src.c = y.key.src.c ∧ x.key.src.d = y.key.src.d ∧ x.key.dst.k = y.key.dst.k ∧ x.key.dst.a = y.key.dst.a ∧ x.key.dst.b = y.key.dst.b ∧ x.key.dst.c = y.key.dst.c ∧ x.key.dst.d = y.key.dst.d ∧ x.key.proto = y.key.proto ∧ x.key.sport = y.key.sport ∧ x.key.dport = y.key.dport := by
  obtain ⟨a1, ⟨⟨a2, a3, a4, a5, a6⟩, ⟨a7, a8, a9, a10, a11⟩, a12, a13, a14⟩⟩ := x
  obtain ⟨b1, ⟨⟨b2, b3, b4, b5, b6⟩, ⟨b7, b8, b9, b10, b11⟩, b12, b13, b14⟩⟩ := y
  simp [and_assoc]
theorem ite_fk {p : Prop} [Decidable p] {b : Bool} {w : World} : (if p then Result.ok b w else Result.ok false w) = Result.ok (decide p && b) w := by
  by_cases h : p <;> simp [h]

set_option maxHeartbeats 1000000 in
theorem eqv_fk (x y : Fk) (w : World) : (Op.equalIn 10000 33 (.agg #[.int .i64 x.tenant, .int .i64 x.key.src.k, .int .i64 x.key.src.a, .int .i64 x.key.src.b, .int .i64 x.key.src.c, .int .i64 x.key.src.d, .int .i64 x.key.dst.k, .int .i64 x.key.dst.a, .int .i64 x.key.dst.b, .int .i64 x.key.dst.c, .int .i64 x.key.dst.d, .int .i64 x.key.proto, .int .i64 x.key.sport, .int .i64 x.key.dport]) (.agg #[.int .i64 y.tenant, .int .i64 y.key.src.k, .int .i64 y.key.src.a, .int .i64 y.key.src.b, .int .i64 y.key.src.c, .int .i64 y.key.src.d, .int .i64 y.key.dst.k, .int .i64 y.key.dst.a, .int .i64 y.key.dst.b, .int .i64 y.key.dst.c, .int .i64 y.key.dst.d, .int .i64 y.key.proto, .int .i64 y.key.sport, .int .i64 y.key.dport])).run Try.prog w = .ok (decide (x = y)) w := by
  go_simp
  simp only [ite_fk]
  congr 1
  simp [Fk.ext_flat, Bool.decide_and]
end Go.Proofs.Ytmfkpiclpkeemaa
