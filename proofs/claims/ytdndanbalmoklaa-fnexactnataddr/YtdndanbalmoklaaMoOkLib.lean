/-
  When a module is valid, as plain data.
-/
import Derived.Test.YtdndanbalmoklaaMoLib
import Derived.Test.YtdndanbalmoklaaRuLib
namespace Go.Proofs.Ytdndanbalmoklaa
set_option maxRecDepth 100000
open Go.RowKit

/-- Two prefixes of the same kind of addresses and the same length. -/
def twins (p q : Pf) : Bool := p.ok && q.ok && pairA p.base q.base && decide (p.len = q.len)
def Mo.bare (m : Mo) : Bool := m.proto == 0 && m.lo == 0 && m.hi == 0
def Mo.anys (m : Mo) : Bool := decide (m.frm = Pf.zero) && decide (m.to = Pf.zero)
def Mo.ok (m : Mo) : Bool :=
  if m.kind = 1 then m.frm.ok && m.to.ok && (m.proto == -1 || upTo m.proto 255) && portsB m.lo m.hi && m.n == 0
  else if m.kind = 2 ∨ m.kind = 3 then twins m.frm m.to && m.bare && m.n == 0
  else if m.kind = 4 ∨ m.kind = 6 then m.anys && m.bare && m.n == 0
  else if m.kind = 5 then btw 0 m.n 63 && m.anys && m.bare
  else if m.kind = 7 then btw 1 m.n 4 && m.anys && m.bare
  else false
theorem Mo.ext_iff' (x y : Mo) : x = y ↔ x.kind = y.kind ∧ x.frm = y.frm ∧ x.to = y.to ∧ x.proto = y.proto ∧ x.lo = y.lo ∧ x.hi = y.hi ∧ x.n = y.n := by
  cases x
  cases y
  simp
theorem Pf.ext_iff' (x y : Pf) : x = y ↔ (x.base.k = y.base.k ∧ x.base.a = y.base.a ∧ x.base.b = y.base.b ∧ x.base.c = y.base.c ∧ x.base.d = y.base.d) ∧ x.len = y.len := by
  obtain ⟨⟨k, a, b, c, d⟩, n⟩ := x
  obtain ⟨⟨k', a', b', c', d'⟩, n'⟩ := y
  simp
theorem Mo.ok1 {m : Mo} (h : m.kind = 1) : m.ok = (m.frm.ok && m.to.ok && (m.proto == -1 || upTo m.proto 255) && portsB m.lo m.hi && m.n == 0) := by simp [Mo.ok, h]
theorem Mo.ok2 {m : Mo} (h : m.kind = 2 ∨ m.kind = 3) : m.ok = (twins m.frm m.to && m.bare && m.n == 0) := by
  have h1 : ¬ m.kind = 1 := by omega
  simp [Mo.ok, h1, h]
theorem Mo.ok4 {m : Mo} (h : m.kind = 4 ∨ m.kind = 6) : m.ok = (m.anys && m.bare && m.n == 0) := by
  have h1 : ¬ m.kind = 1 := by omega
  have h2 : ¬ (m.kind = 2 ∨ m.kind = 3) := by omega
  simp [Mo.ok, h1, h2, h]
theorem Mo.ok5 {m : Mo} (h : m.kind = 5) : m.ok = (btw 0 m.n 63 && m.anys && m.bare) := by simp [Mo.ok, h]
theorem Mo.ok7 {m : Mo} (h : m.kind = 7) : m.ok = (btw 1 m.n 4 && m.anys && m.bare) := by simp [Mo.ok, h]
theorem Mo.ok0 {m : Mo} (h : m.kind < 1 ∨ 7 < m.kind) : m.ok = false := by
  have h1 : ¬ m.kind = 1 := by omega
  have h2 : ¬ (m.kind = 2 ∨ m.kind = 3) := by omega
  have h3 : ¬ (m.kind = 4 ∨ m.kind = 6) := by omega
  have h4 : ¬ m.kind = 5 := by omega
  have h5 : ¬ m.kind = 7 := by omega
  simp [Mo.ok, h1, h2, h3, h4, h5]
end Go.Proofs.Ytdndanbalmoklaa
