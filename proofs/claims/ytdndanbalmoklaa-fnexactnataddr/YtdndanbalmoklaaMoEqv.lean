/-
  Equality of two structs, as the model has it.
-/
import Derived.Test.YtdndanbalmoklaaMoLib
namespace Go.Proofs.Ytdndanbalmoklaa
set_option maxRecDepth 100000
open Go.RowKit

theorem Mo.ext_flat (x y : Mo) : x = y ↔ x.kind = y.kind ∧ x.frm.base.k = y.frm.base.k ∧ x.frm.base.a = y.frm.base.a ∧ x.frm.base.b = y.frm.base.b ∧ x.frm.base.c = y.frm.base.c ∧ x.frm.base.d = y.frm.base.d ∧ x.frm.len = y.frm.len ∧ x.to.base.k = y.to.base.k ∧ x.to.base.a = y.to.base.a ∧ x.to.base.b = y.to.base.b ∧ x.to.base.c = y.to.base.c ∧ x.to.base.d = y.to.base.d ∧ x.to.len = y.to.len ∧ x.proto = y.proto ∧ x.lo = y.lo ∧ x.hi = y.hi ∧ x.n = y.n := by
  obtain ⟨a1, ⟨⟨a2, a3, a4, a5, a6⟩, a7⟩, ⟨⟨a8, a9, a10, a11, a12⟩, a13⟩, a14, a15, a16, a17⟩ := x
  obtain ⟨b1, ⟨⟨b2, b3, b4, b5, b6⟩, b7⟩, ⟨⟨b8, b9, b10, b11, b12⟩, b13⟩, b14, b15, b16, b17⟩ := y
  simp [and_assoc]
theorem ite_mo {p : Prop} [Decidable p] {b : Bool} {w : World} : (if p then Result.ok b w else Result.ok false w) = Result.ok (decide p && b) w := by
  by_cases h : p <;> simp [h]

set_option maxHeartbeats 1000000 in
theorem eqv_mo (x y : Mo) (w : World) : (Op.equalIn 10000 33 (.agg #[.int .i64 x.kind, .int .i64 x.frm.base.k, .int .i64 x.frm.base.a, .int .i64 x.frm.base.b, .int .i64 x.frm.base.c, .int .i64 x.frm.base.d, .int .i64 x.frm.len, .int .i64 x.to.base.k, .int .i64 x.to.base.a, .int .i64 x.to.base.b, .int .i64 x.to.base.c, .int .i64 x.to.base.d, .int .i64 x.to.len, .int .i64 x.proto, .int .i64 x.lo, .int .i64 x.hi, .int .i64 x.n]) (.agg #[.int .i64 y.kind, .int .i64 y.frm.base.k, .int .i64 y.frm.base.a, .int .i64 y.frm.base.b, .int .i64 y.frm.base.c, .int .i64 y.frm.base.d, .int .i64 y.frm.len, .int .i64 y.to.base.k, .int .i64 y.to.base.a, .int .i64 y.to.base.b, .int .i64 y.to.base.c, .int .i64 y.to.base.d, .int .i64 y.to.len, .int .i64 y.proto, .int .i64 y.lo, .int .i64 y.hi, .int .i64 y.n])).run Try.prog w = .ok (decide (x = y)) w := by
  go_simp
  simp only [ite_mo]
  congr 1
  simp [Mo.ext_flat, Bool.decide_and]
end Go.Proofs.Ytdndanbalmoklaa
