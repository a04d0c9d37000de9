/-
  An IPv4 packet that came in: what the walk is told of it, out of its reading.
-/
import Derived.Test.YtegpaocoepcemaaFourLib
import Derived.Test.YtegpaocoepcemaaInBytes
import Derived.Test.YtegpaocoepcemaaInAddr
namespace Go.Proofs.Ytegpaocoepcemaa
set_option maxRecDepth 100000
open Go.RowKit Go.ChangeShapes Go.WideShapes Go.ChangeAt

theorem len19 {α : Type} {l : List α} (h : l.length = 19) : ∃ c0 c1 c2 c3 c4 c5 c6 c7 c8 c9 c10 c11 c12 c13 c14 c15 c16 c17 c18, l = [c0, c1, c2, c3, c4, c5, c6, c7, c8, c9, c10, c11, c12, c13, c14, c15, c16, c17, c18] := by
  match l, h with
  | [c0, c1, c2, c3, c4, c5, c6, c7, c8, c9, c10, c11, c12, c13, c14, c15, c16, c17, c18], _ => exact ⟨c0, c1, c2, c3, c4, c5, c6, c7, c8, c9, c10, c11, c12, c13, c14, c15, c16, c17, c18, rfl⟩

/-- A cell that is read as a slice of bytes is one. -/
theorem bytes_cellF {H : Type} {enc : TypeId × Value → H} {w : World} {fuel : Nat} {v : Value} {x : DataW H × List MemPlace} (h : DataW.trod enc Try.prog w 0 (fun _ => true) true fuel 28 [v] = some x) :
    ∃ A n c bs, v = .slice A n c ∧ In w A n c bs := by
  obtain ⟨d, p⟩ := x
  rcases open_ints Try.underlying28 Try.underlying5 (by kernel_rfl) h with ⟨hcs, _⟩ | ⟨ad, l, cp, zs, hcs, _⟩
  · simp at hcs
    subst hcs
    obtain ⟨bs, hb⟩ := bytes_in (A := none) (n := 0) (c := 0) (d := d) (p := p) ⟨fuel, h⟩
    exact ⟨_, _, _, bs, rfl, hb⟩
  · simp at hcs
    subst hcs
    obtain ⟨bs, hb⟩ := bytes_in (d := d) (p := p) ⟨fuel, h⟩
    exact ⟨_, _, _, bs, rfl, hb⟩

end Go.Proofs.Ytegpaocoepcemaa