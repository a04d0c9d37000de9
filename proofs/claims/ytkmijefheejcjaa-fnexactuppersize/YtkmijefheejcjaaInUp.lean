/-
  An upper layer that came in: what the walk is told of it, out of its reading.
-/
import Derived.Test.YtkmijefheejcjaaUpLib
import Derived.Test.YtkmijefheejcjaaInBytes
import Derived.Test.YtkmijefheejcjaaInAddr
namespace Go.Proofs.Ytkmijefheejcjaa
set_option maxRecDepth 100000
open Go.RowKit Go.ChangeShapes Go.WideShapes Go.ChangeAt

theorem len14 {α : Type} {l : List α} (h : l.length = 14) : ∃ c0 c1 c2 c3 c4 c5 c6 c7 c8 c9 c10 c11 c12 c13, l = [c0, c1, c2, c3, c4, c5, c6, c7, c8, c9, c10, c11, c12, c13] := by
  match l, h with
  | [c0, c1, c2, c3, c4, c5, c6, c7, c8, c9, c10, c11, c12, c13], _ => exact ⟨c0, c1, c2, c3, c4, c5, c6, c7, c8, c9, c10, c11, c12, c13, rfl⟩
theorem field_bool {H : Type} {enc : TypeId × Value → H} {P : Program} {w : World} {base : Nat} {spare : Nat → Bool} {held : Bool} {t : TypeId} {fuel : Nat} {cs : List Value} {x : DataW H × List MemPlace} {fs : Array Field}
    (ht : P.underlying t = some (.struct fs)) (h : DataW.trod enc P w base spare held fuel t cs = some x) (i : Nat) (f : Field) (hf : fs[i]? = some f) (hu : P.underlying f.type = some .bool) (hc : P.cellsOf f.type = 1) :
    ∃ b, (cs.drop f.offset).take 1 = [.bool b] := by
  obtain ⟨xs, m, _, _, _, hlen, hx⟩ := DataW.trod_struct ht h
  have hi : i < xs.length := by
    rw [hlen]
    exact (Array.getElem?_eq_some_iff.1 hf).1
  have hg := hx i f hf
  rw [List.getElem?_eq_getElem hi, hc] at hg
  obtain ⟨n, hn, _⟩ := DataW.trod_bool hu hg
  exact ⟨n, hn⟩

/-- A cell that is read as a slice of bytes is one. -/
theorem bytes_cellU {H : Type} {enc : TypeId × Value → H} {w : World} {fuel : Nat} {v : Value} {x : DataW H × List MemPlace} (h : DataW.trod enc Try.prog w 0 (fun _ => true) true fuel 22 [v] = some x) :
    ∃ A n c bs, v = .slice A n c ∧ In w A n c bs := by
  obtain ⟨d, p⟩ := x
  rcases open_ints Try.underlying22 Try.underlying5 (by kernel_rfl) h with ⟨hcs, _⟩ | ⟨ad, l, cp, zs, hcs, _⟩
  · simp at hcs
    subst hcs
    obtain ⟨bs, hb⟩ := bytes_in (A := none) (n := 0) (c := 0) (d := d) (p := p) ⟨fuel, h⟩
    exact ⟨_, _, _, bs, rfl, hb⟩
  · simp at hcs
    subst hcs
    obtain ⟨bs, hb⟩ := bytes_in (d := d) (p := p) ⟨fuel, h⟩
    exact ⟨_, _, _, bs, rfl, hb⟩

theorem up_in {H : Type} {enc : TypeId × Value → H} {w : World} {r : Reach} {b0 : Nat} {v : Value} {d : DataW H} {p : List MemPlace}
    (hv : Value.okWide Try.prog w r b0 52 v) (h : DataW.Trod enc Try.prog w 0 (fun _ => true) true 52 v d p) :
    ∃ (y : Uh) (A : Option Addr) (n c : Nat) (os : List UInt8) (D : Option Addr) (m e : Nat) (bs : List UInt8), v = .agg #[.int .i64 y.kind, .int .i64 y.sport, .int .i64 y.dport, .int .i64 y.seq, .int .i64 y.ack, .int .i64 y.bits, .int .i64 y.window, .int .i64 y.urgent, .int .i64 y.ty, .int .i64 y.code, .int .i64 y.rest, .bool y.nosum, .slice A n c, .slice D m e] ∧ In w A n c os ∧ In w D m e bs := by
  obtain ⟨cs, rfl, hsz⟩ := okWide_struct Try.underlying52 hv
  obtain ⟨fuel, hf⟩ := h
  have hl : cs.toList.length = 14 := by
    rw [Array.length_toList, hsz]
    kernel_rfl
  obtain ⟨c0, c1, c2, c3, c4, c5, c6, c7, c8, c9, c10, c11, c12, c13, hcs⟩ := len14 hl
  simp only [Value.cells] at hf
  rw [hcs] at hf
  obtain ⟨n0, e0⟩ := field_int Try.underlying52 hf 0 _ rfl Try.underlying3 (by kernel_rfl)
  obtain ⟨n1, e1⟩ := field_int Try.underlying52 hf 1 _ rfl Try.underlying3 (by kernel_rfl)
  obtain ⟨n2, e2⟩ := field_int Try.underlying52 hf 2 _ rfl Try.underlying3 (by kernel_rfl)
  obtain ⟨n3, e3⟩ := field_int Try.underlying52 hf 3 _ rfl Try.underlying3 (by kernel_rfl)
  obtain ⟨n4, e4⟩ := field_int Try.underlying52 hf 4 _ rfl Try.underlying3 (by kernel_rfl)
  obtain ⟨n5, e5⟩ := field_int Try.underlying52 hf 5 _ rfl Try.underlying3 (by kernel_rfl)
  obtain ⟨n6, e6⟩ := field_int Try.underlying52 hf 6 _ rfl Try.underlying3 (by kernel_rfl)
  obtain ⟨n7, e7⟩ := field_int Try.underlying52 hf 7 _ rfl Try.underlying3 (by kernel_rfl)
  obtain ⟨n8, e8⟩ := field_int Try.underlying52 hf 8 _ rfl Try.underlying3 (by kernel_rfl)
  obtain ⟨n9, e9⟩ := field_int Try.underlying52 hf 9 _ rfl Try.underlying3 (by kernel_rfl)
  obtain ⟨n10, e10⟩ := field_int Try.underlying52 hf 10 _ rfl Try.underlying3 (by kernel_rfl)
  obtain ⟨b11, e11⟩ := field_bool Try.underlying52 hf 11 _ rfl Try.underlying4 (by kernel_rfl)
  obtain ⟨xs, m, _, _, _, hlen, hx⟩ := DataW.trod_struct Try.underlying52 hf
  have hlen' : xs.length = 14 := hlen
  have hc1 : Try.prog.cellsOf 22 = 1 := by kernel_rfl
  have hg9 : DataW.trod enc Try.prog w 0 (fun _ => true) true m 22 (([c0, c1, c2, c3, c4, c5, c6, c7, c8, c9, c10, c11, c12, c13].drop 12).take (Try.prog.cellsOf 22)) = xs[12]? := hx 12 _ rfl
  have hg10 : DataW.trod enc Try.prog w 0 (fun _ => true) true m 22 (([c0, c1, c2, c3, c4, c5, c6, c7, c8, c9, c10, c11, c12, c13].drop 13).take (Try.prog.cellsOf 22)) = xs[13]? := hx 13 _ rfl
  rw [List.getElem?_eq_getElem (by omega)] at hg9 hg10
  rw [hc1] at hg9 hg10
  obtain ⟨A, n, c, os, e17, hin⟩ := bytes_cellU hg9
  obtain ⟨D, q, e, bs, e18, hin2⟩ := bytes_cellU hg10
  simp at e0 e1 e2 e3 e4 e5 e6 e7 e8 e9 e10 e11
  subst e0 e1 e2 e3 e4 e5 e6 e7 e8 e9 e10 e11 e17 e18
  refine ⟨⟨n0, n1, n2, n3, n4, n5, n6, n7, n8, n9, n10, b11⟩, A, n, c, os, D, q, e, bs, ?_, hin, hin2⟩
  cases cs
  simp only at hcs
  rw [hcs]
end Go.Proofs.Ytkmijefheejcjaa
