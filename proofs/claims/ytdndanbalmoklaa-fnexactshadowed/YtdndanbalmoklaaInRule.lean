/-
  A rule that came in: what the walk is told of it, out of its reading.
-/
import Derived.Test.YtdndanbalmoklaaRuLib
import Derived.Test.YtdndanbalmoklaaInAddr
namespace Go.Proofs.Ytdndanbalmoklaa
set_option maxRecDepth 100000
open Go.RowKit Go.ChangeShapes Go.WideShapes Go.ChangeAt

theorem len21 {α : Type} {l : List α} (h : l.length = 21) : ∃ c0 c1 c2 c3 c4 c5 c6 c7 c8 c9 c10 c11 c12 c13 c14 c15 c16 c17 c18 c19 c20, l = [c0, c1, c2, c3, c4, c5, c6, c7, c8, c9, c10, c11, c12, c13, c14, c15, c16, c17, c18, c19, c20] := by
  match l, h with
  | [c0, c1, c2, c3, c4, c5, c6, c7, c8, c9, c10, c11, c12, c13, c14, c15, c16, c17, c18, c19, c20], _ => exact ⟨c0, c1, c2, c3, c4, c5, c6, c7, c8, c9, c10, c11, c12, c13, c14, c15, c16, c17, c18, c19, c20, rfl⟩

theorem pfx_cells {H : Type} {enc : TypeId × Value → H} {w : World} {base : Nat} {spare : Nat → Bool} {held : Bool} {fuel : Nat} {cs : List Value} {x : DataW H × List MemPlace}
    (h : DataW.trod enc Try.prog w base spare held fuel 25 cs = some x) (hl : cs.length = 6) : ∃ y : Pf, cs = [.int .i64 y.base.k, .int .i64 y.base.a, .int .i64 y.base.b, .int .i64 y.base.c, .int .i64 y.base.d, .int .i64 y.len] := by
  obtain ⟨c0, c1, c2, c3, c4, c5, rfl⟩ := six_ hl
  obtain ⟨n5, e5⟩ := field_int Try.underlying25 h 1 _ rfl Try.underlying3 (by kernel_rfl)
  obtain ⟨xs, m, _, _, _, hlen, hx⟩ := DataW.trod_struct Try.underlying25 h
  have hg : DataW.trod enc Try.prog w base spare held m 23 (([c0, c1, c2, c3, c4, c5].drop 0).take (Try.prog.cellsOf 23)) = xs[0]? := hx 0 _ rfl
  have hc5 : Try.prog.cellsOf 23 = 5 := by kernel_rfl
  rw [List.getElem?_eq_getElem (by rw [hlen]; exact Nat.zero_lt_succ _)] at hg
  obtain ⟨y, hy⟩ := addr_cells hg
  rw [hc5] at hy
  simp at e5 hy
  obtain ⟨rfl, rfl, rfl, rfl, rfl⟩ := hy
  subst e5
  exact ⟨⟨y, n5⟩, rfl⟩

theorem rule_cells {H : Type} {enc : TypeId × Value → H} {w : World} {base : Nat} {spare : Nat → Bool} {held : Bool} {fuel : Nat} {cs : List Value} {x : DataW H × List MemPlace}
    (hf : DataW.trod enc Try.prog w base spare held fuel 83 cs = some x) (hl : cs.length = 21) : ∃ y : Ru, cs = y.cells := by
  obtain ⟨c0, c1, c2, c3, c4, c5, c6, c7, c8, c9, c10, c11, c12, c13, c14, c15, c16, c17, c18, c19, c20, rfl⟩ := len21 hl
  obtain ⟨n0, e0⟩ := field_int Try.underlying83 hf 0 _ rfl Try.underlying3 (by kernel_rfl)
  obtain ⟨n3, e3⟩ := field_int Try.underlying83 hf 3 _ rfl Try.underlying3 (by kernel_rfl)
  obtain ⟨n4, e4⟩ := field_int Try.underlying83 hf 4 _ rfl Try.underlying3 (by kernel_rfl)
  obtain ⟨n5, e5⟩ := field_int Try.underlying83 hf 5 _ rfl Try.underlying3 (by kernel_rfl)
  obtain ⟨n6, e6⟩ := field_int Try.underlying83 hf 6 _ rfl Try.underlying3 (by kernel_rfl)
  obtain ⟨n7, e7⟩ := field_int Try.underlying83 hf 7 _ rfl Try.underlying3 (by kernel_rfl)
  obtain ⟨n8, e8⟩ := field_int Try.underlying83 hf 8 _ rfl Try.underlying3 (by kernel_rfl)
  obtain ⟨n9, e9⟩ := field_int Try.underlying83 hf 9 _ rfl Try.underlying3 (by kernel_rfl)
  obtain ⟨n10, e10⟩ := field_int Try.underlying83 hf 10 _ rfl Try.underlying3 (by kernel_rfl)
  obtain ⟨xs, m, _, _, _, hlen, hx⟩ := DataW.trod_struct Try.underlying83 hf
  have hlen' : xs.length = 11 := hlen
  have hc6 : Try.prog.cellsOf 25 = 6 := by kernel_rfl
  have hg0 : DataW.trod enc Try.prog w base spare held m 25 (([c0, c1, c2, c3, c4, c5, c6, c7, c8, c9, c10, c11, c12, c13, c14, c15, c16, c17, c18, c19, c20].drop 1).take (Try.prog.cellsOf 25)) = xs[1]? := hx 1 _ rfl
  have hg1 : DataW.trod enc Try.prog w base spare held m 25 (([c0, c1, c2, c3, c4, c5, c6, c7, c8, c9, c10, c11, c12, c13, c14, c15, c16, c17, c18, c19, c20].drop 7).take (Try.prog.cellsOf 25)) = xs[2]? := hx 2 _ rfl
  rw [List.getElem?_eq_getElem (by omega)] at hg0 hg1
  obtain ⟨y0, hy0⟩ := pfx_cells hg0 (by rw [hc6]; rfl)
  obtain ⟨y1, hy1⟩ := pfx_cells hg1 (by rw [hc6]; rfl)
  rw [hc6] at hy0 hy1
  simp at e0 e3 e4 e5 e6 e7 e8 e9 e10 hy0 hy1
  obtain ⟨rfl, rfl, rfl, rfl, rfl, rfl⟩ := hy0
  obtain ⟨rfl, rfl, rfl, rfl, rfl, rfl⟩ := hy1
  subst e0 e3 e4 e5 e6 e7 e8 e9 e10
  exact ⟨⟨n0, y0, y1, n3, n4, n5, n6, n7, n8, n9, n10⟩, rfl⟩

theorem rule_in {H : Type} {enc : TypeId × Value → H} {w : World} {r : Reach} {b0 base : Nat} {spare : Nat → Bool} {held : Bool} {v : Value} {d : DataW H} {p : List MemPlace}
    (hv : Value.okWide Try.prog w r b0 83 v) (h : DataW.Trod enc Try.prog w base spare held 83 v d p) : ∃ y : Ru, v = y.val := by
  obtain ⟨cs, rfl, hsz⟩ := okWide_struct Try.underlying83 hv
  obtain ⟨fuel, hf⟩ := h
  have hl : cs.toList.length = 21 := by
    rw [Array.length_toList, hsz]
    kernel_rfl
  obtain ⟨y, hy⟩ := rule_cells hf hl
  refine ⟨y, ?_⟩
  simp only [Value.cells] at hy
  cases cs
  try simp only at hy
  rw [hy]
  rfl
end Go.Proofs.Ytdndanbalmoklaa
