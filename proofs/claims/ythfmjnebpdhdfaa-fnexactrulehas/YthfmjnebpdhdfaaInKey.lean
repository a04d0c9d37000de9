/-
  A stream key that came in: what the walk is told of it, out of its reading.
-/
import Derived.Test.YthfmjnebpdhdfaaKeyLib
import Derived.Test.YthfmjnebpdhdfaaInAddr
namespace Go.Proofs.Ythfmjnebpdhdfaa
set_option maxRecDepth 100000
open Go.RowKit Go.ChangeShapes Go.WideShapes Go.ChangeAt

theorem len13 {α : Type} {l : List α} (h : l.length = 13) : ∃ c0 c1 c2 c3 c4 c5 c6 c7 c8 c9 c10 c11 c12, l = [c0, c1, c2, c3, c4, c5, c6, c7, c8, c9, c10, c11, c12] := by
  match l, h with
  | [c0, c1, c2, c3, c4, c5, c6, c7, c8, c9, c10, c11, c12], _ => exact ⟨c0, c1, c2, c3, c4, c5, c6, c7, c8, c9, c10, c11, c12, rfl⟩

theorem key_in {H : Type} {enc : TypeId × Value → H} {w : World} {r : Reach} {b0 base : Nat} {spare : Nat → Bool} {held : Bool} {v : Value} {d : DataW H} {p : List MemPlace}
    (hv : Value.okWide Try.prog w r b0 37 v) (h : DataW.Trod enc Try.prog w base spare held 37 v d p) : ∃ y : Ky, v = y.val := by
  obtain ⟨cs, rfl, hsz⟩ := okWide_struct Try.underlying37 hv
  obtain ⟨fuel, hf⟩ := h
  have hl : cs.toList.length = 13 := by
    rw [Array.length_toList, hsz]
    kernel_rfl
  obtain ⟨c0, c1, c2, c3, c4, c5, c6, c7, c8, c9, c10, c11, c12, hcs⟩ := len13 hl
  simp only [Value.cells] at hf
  rw [hcs] at hf
  obtain ⟨n2, e2⟩ := field_int Try.underlying37 hf 2 _ rfl Try.underlying3 (by kernel_rfl)
  obtain ⟨n3, e3⟩ := field_int Try.underlying37 hf 3 _ rfl Try.underlying3 (by kernel_rfl)
  obtain ⟨n4, e4⟩ := field_int Try.underlying37 hf 4 _ rfl Try.underlying3 (by kernel_rfl)
  obtain ⟨xs, m, _, _, _, hlen, hx⟩ := DataW.trod_struct Try.underlying37 hf
  have hlen' : xs.length = 5 := hlen
  have hc5 : Try.prog.cellsOf 23 = 5 := by kernel_rfl
  have hg0 : DataW.trod enc Try.prog w base spare held m 23 (([c0, c1, c2, c3, c4, c5, c6, c7, c8, c9, c10, c11, c12].drop 0).take (Try.prog.cellsOf 23)) = xs[0]? := hx 0 _ rfl
  have hg1 : DataW.trod enc Try.prog w base spare held m 23 (([c0, c1, c2, c3, c4, c5, c6, c7, c8, c9, c10, c11, c12].drop 5).take (Try.prog.cellsOf 23)) = xs[1]? := hx 1 _ rfl
  rw [List.getElem?_eq_getElem (by omega)] at hg0 hg1
  obtain ⟨y0, hy0⟩ := addr_cells hg0
  obtain ⟨y1, hy1⟩ := addr_cells hg1
  rw [hc5] at hy0 hy1
  simp at e2 e3 e4 hy0 hy1
  obtain ⟨rfl, rfl, rfl, rfl, rfl⟩ := hy0
  obtain ⟨rfl, rfl, rfl, rfl, rfl⟩ := hy1
  subst e2 e3 e4
  refine ⟨⟨y0, y1, n2, n3, n4⟩, ?_⟩
  cases cs
  try simp only at hcs
  rw [hcs]
  rfl
end Go.Proofs.Ythfmjnebpdhdfaa
