/-
  An IPv4 packet that came in: what the walk is told of it, out of its reading.
-/
import Derived.Test.YtekdfffjlcikeaaFourLib
import Derived.Test.YtekdfffjlcikeaaInBytes
import Derived.Test.YtekdfffjlcikeaaInAddr
namespace Go.Proofs.Ytekdfffjlcikeaa
open Go.RowKit Go.ChangeShapes Go.WideShapes Go.ChangeAt

theorem len19 {α : Type} {l : List α} (h : l.length = 19) : ∃ c0 c1 c2 c3 c4 c5 c6 c7 c8 c9 c10 c11 c12 c13 c14 c15 c16 c17 c18, l = [c0, c1, c2, c3, c4, c5, c6, c7, c8, c9, c10, c11, c12, c13, c14, c15, c16, c17, c18] := by
  match l, h with
  | [c0, c1, c2, c3, c4, c5, c6, c7, c8, c9, c10, c11, c12, c13, c14, c15, c16, c17, c18], _ => exact ⟨c0, c1, c2, c3, c4, c5, c6, c7, c8, c9, c10, c11, c12, c13, c14, c15, c16, c17, c18, rfl⟩

/-- A cell that is read as a slice of bytes is one. -/
theorem bytes_cellF {H : Type} {enc : TypeId × Value → H} {w : World} {fuel : Nat} {v : Value} {x : DataW H × List MemPlace} (h : DataW.trod enc Try.prog w 0 (fun _ => true) true fuel 24 [v] = some x) :
    ∃ A n c bs, v = .slice A n c ∧ In w A n c bs := by
  obtain ⟨d, p⟩ := x
  rcases open_ints Try.underlying24 Try.underlying5 (by kernel_rfl) h with ⟨hcs, _⟩ | ⟨ad, l, cp, zs, hcs, _⟩
  · simp at hcs
    subst hcs
    obtain ⟨bs, hb⟩ := bytes_in (A := none) (n := 0) (c := 0) (d := d) (p := p) ⟨fuel, h⟩
    exact ⟨_, _, _, bs, rfl, hb⟩
  · simp at hcs
    subst hcs
    obtain ⟨bs, hb⟩ := bytes_in (d := d) (p := p) ⟨fuel, h⟩
    exact ⟨_, _, _, bs, rfl, hb⟩

theorem four_in {H : Type} {enc : TypeId × Value → H} {w : World} {r : Reach} {b0 : Nat} {v : Value} {d : DataW H} {p : List MemPlace}
    (hv : Value.okWide Try.prog w r b0 26 v) (h : DataW.Trod enc Try.prog w 0 (fun _ => true) true 26 v d p) :
    ∃ (y : Fh) (A : Option Addr) (n c : Nat) (os : List UInt8) (D : Option Addr) (m e : Nat) (bs : List UInt8), v = .agg #[.int .i64 y.dscp, .int .i64 y.ecn, .int .i64 y.id, .int .i64 y.flags, .int .i64 y.frag, .int .i64 y.ttl, .int .i64 y.proto, .int .i64 y.src.k, .int .i64 y.src.a, .int .i64 y.src.b, .int .i64 y.src.c, .int .i64 y.src.d, .int .i64 y.dst.k, .int .i64 y.dst.a, .int .i64 y.dst.b, .int .i64 y.dst.c, .int .i64 y.dst.d, .slice A n c, .slice D m e] ∧ In w A n c os ∧ In w D m e bs := by
  obtain ⟨cs, rfl, hsz⟩ := okWide_struct Try.underlying26 hv
  obtain ⟨fuel, hf⟩ := h
  have hl : cs.toList.length = 19 := by
    rw [Array.length_toList, hsz]
    kernel_rfl
  obtain ⟨c0, c1, c2, c3, c4, c5, c6, c7, c8, c9, c10, c11, c12, c13, c14, c15, c16, c17, c18, hcs⟩ := len19 hl
  simp only [Value.cells] at hf
  rw [hcs] at hf
  obtain ⟨n0, e0⟩ := field_int Try.underlying26 hf 0 _ rfl Try.underlying3 (by kernel_rfl)
  obtain ⟨n1, e1⟩ := field_int Try.underlying26 hf 1 _ rfl Try.underlying3 (by kernel_rfl)
  obtain ⟨n2, e2⟩ := field_int Try.underlying26 hf 2 _ rfl Try.underlying3 (by kernel_rfl)
  obtain ⟨n3, e3⟩ := field_int Try.underlying26 hf 3 _ rfl Try.underlying3 (by kernel_rfl)
  obtain ⟨n4, e4⟩ := field_int Try.underlying26 hf 4 _ rfl Try.underlying3 (by kernel_rfl)
  obtain ⟨n5, e5⟩ := field_int Try.underlying26 hf 5 _ rfl Try.underlying3 (by kernel_rfl)
  obtain ⟨n6, e6⟩ := field_int Try.underlying26 hf 6 _ rfl Try.underlying3 (by kernel_rfl)
  obtain ⟨xs, m, _, _, _, hlen, hx⟩ := DataW.trod_struct Try.underlying26 hf
  have hlen' : xs.length = 11 := hlen
  have hc1 : Try.prog.cellsOf 24 = 1 := by kernel_rfl
  have hc5 : Try.prog.cellsOf 23 = 5 := by kernel_rfl
  have hg7 : DataW.trod enc Try.prog w 0 (fun _ => true) true m 23 (([c0, c1, c2, c3, c4, c5, c6, c7, c8, c9, c10, c11, c12, c13, c14, c15, c16, c17, c18].drop 7).take (Try.prog.cellsOf 23)) = xs[7]? := hx 7 _ rfl
  have hg8 : DataW.trod enc Try.prog w 0 (fun _ => true) true m 23 (([c0, c1, c2, c3, c4, c5, c6, c7, c8, c9, c10, c11, c12, c13, c14, c15, c16, c17, c18].drop 12).take (Try.prog.cellsOf 23)) = xs[8]? := hx 8 _ rfl
  have hg9 : DataW.trod enc Try.prog w 0 (fun _ => true) true m 24 (([c0, c1, c2, c3, c4, c5, c6, c7, c8, c9, c10, c11, c12, c13, c14, c15, c16, c17, c18].drop 17).take (Try.prog.cellsOf 24)) = xs[9]? := hx 9 _ rfl
  have hg10 : DataW.trod enc Try.prog w 0 (fun _ => true) true m 24 (([c0, c1, c2, c3, c4, c5, c6, c7, c8, c9, c10, c11, c12, c13, c14, c15, c16, c17, c18].drop 18).take (Try.prog.cellsOf 24)) = xs[10]? := hx 10 _ rfl
  rw [List.getElem?_eq_getElem (by omega)] at hg7 hg8 hg9 hg10
  rw [hc1] at hg9 hg10
  obtain ⟨y7, hy7⟩ := addr_cells hg7
  obtain ⟨y8, hy8⟩ := addr_cells hg8
  obtain ⟨A, n, c, os, e17, hin⟩ := bytes_cellF hg9
  obtain ⟨D, q, e, bs, e18, hin2⟩ := bytes_cellF hg10
  rw [hc5] at hy7 hy8
  simp at e0 e1 e2 e3 e4 e5 e6 hy7 hy8
  obtain ⟨rfl, rfl, rfl, rfl, rfl⟩ := hy7
  obtain ⟨rfl, rfl, rfl, rfl, rfl⟩ := hy8
  subst e0 e1 e2 e3 e4 e5 e6 e17 e18
  refine ⟨⟨n0, n1, n2, n3, n4, n5, n6, y7, y8⟩, A, n, c, os, D, q, e, bs, ?_, hin, hin2⟩
  cases cs
  simp only at hcs
  rw [hcs]
end Go.Proofs.Ytekdfffjlcikeaa
