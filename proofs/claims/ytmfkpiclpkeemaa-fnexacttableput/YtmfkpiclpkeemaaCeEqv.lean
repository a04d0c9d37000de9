/-
  Equality of two structs, as the model has it.
-/
import Derived.Test.YtmfkpiclpkeemaaCeLib
namespace Go.Proofs.Ytmfkpiclpkeemaa
set_option maxRecDepth 100000
open Go.RowKit

theorem Ce.ext_flat (x y : Ce) : x = y ↔ x.used = y.used ∧ x.key.tenant = y.key.tenant ∧ x.key.key.src.k = y.key.key.src.k ∧ x.key.key.src.a = y.key.key.src.a ∧ x.key.key.src.b = y.key.key.src.b ∧ x.key.key.src.c = y.key.key.src.c ∧ x.key.key.src.d = y.key.key.src.d ∧ x.key.key.dst.k = y.key.key.dst.k ∧ x.key.key.dst.a = y.key.key.dst.a ∧ x.key.key.dst.b = y.key.key.dst.b ∧ x.key.key.dst.c = y.key.key.dst.c ∧ x.key.key.dst.d = y.key.key.dst.d ∧ x.key.key.proto = y.key.key.proto ∧ x.key.key.sport = y.key.key.sport ∧ x.key.key.dport = y.key.key.dport ∧ x.num = y.num := by
  obtain ⟨a1, ⟨a2, ⟨⟨a3, a4, a5, a6, a7⟩, ⟨a8, a9, a10, a11, a12⟩, a13, a14, a15⟩⟩, a16⟩ := x
  obtain ⟨b1, ⟨b2, ⟨⟨b3, b4, b5, b6, b7⟩, ⟨b8, b9, b10, b11, b12⟩, b13, b14, b15⟩⟩, b16⟩ := y
  simp [and_assoc]
theorem ite_ce {p : Prop} [Decidable p] {b : Bool} {w : World} : (if p then Result.ok b w else Result.ok false w) = Result.ok (decide p && b) w := by
  by_cases h : p <;> simp [h]

set_option maxHeartbeats 1000000 in
theorem eqv_ce (x y : Ce) (w : World) : (Op.equalIn 10000 93 (.agg #[.bool x.used, .int .i64 x.key.tenant, .int .i64 x.key.key.src.k, .int .i64 x.key.key.src.a, .int .i64 x.key.key.src.b, .int .i64 x.key.key.src.c, .int .i64 x.key.key.src.d, .int .i64 x.key.key.dst.k, .int .i64 x.key.key.dst.a, .int .i64 x.key.key.dst.b, .int .i64 x.key.key.dst.c, .int .i64 x.key.key.dst.d, .int .i64 x.key.key.proto, .int .i64 x.key.key.sport, .int .i64 x.key.key.dport, .int .i64 x.num]) (.agg #[.bool y.used, .int .i64 y.key.tenant, .int .i64 y.key.key.src.k, .int .i64 y.key.key.src.a, .int .i64 y.key.key.src.b, .int .i64 y.key.key.src.c, .int .i64 y.key.key.src.d, .int .i64 y.key.key.dst.k, .int .i64 y.key.key.dst.a, .int .i64 y.key.key.dst.b, .int .i64 y.key.key.dst.c, .int .i64 y.key.key.dst.d, .int .i64 y.key.key.proto, .int .i64 y.key.key.sport, .int .i64 y.key.key.dport, .int .i64 y.num])).run Try.prog w = .ok (decide (x = y)) w := by
  go_simp
  simp only [ite_ce]
  congr 1
  simp [Ce.ext_flat, Bool.decide_and]
end Go.Proofs.Ytmfkpiclpkeemaa
