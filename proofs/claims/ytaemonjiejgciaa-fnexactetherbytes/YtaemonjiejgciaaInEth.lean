/-
  A frame that came in: what the walk is told of it, out of its reading.
-/
import Derived.Test.YtaemonjiejgciaaEthLib
import Derived.Test.YtaemonjiejgciaaInBytes
namespace Go.Proofs.Ytaemonjiejgciaa
open Go.RowKit Go.ChangeShapes Go.WideShapes Go.ChangeAt

theorem int_field {H : Type} {enc : TypeId × Value → H} {P : Program} {w : World} {base : Nat} {spare : Nat → Bool} {held : Bool} {t : TypeId} {fuel : Nat} {cs : List Value} {x : DataW H × List MemPlace} {fs : Array Field}
    (ht : P.underlying t = some (.struct fs)) (h : DataW.trod enc P w base spare held fuel t cs = some x) (i : Nat) (f : Field) (hf : fs[i]? = some f) (hu : P.underlying f.type = some (.int .i64)) (hc : P.cellsOf f.type = 1) :
    ∃ n, (cs.drop f.offset).take 1 = [.int .i64 n] := by
  obtain ⟨xs, m, _, _, _, hlen, hx⟩ := DataW.trod_struct ht h
  have hi : i < xs.length := by
    rw [hlen]
    exact (Array.getElem?_eq_some_iff.1 hf).1
  have hg := hx i f hf
  rw [List.getElem?_eq_getElem hi, hc] at hg
  obtain ⟨n, hn, _⟩ := DataW.trod_int hu hg
  exact ⟨n, hn⟩
theorem len5 {α : Type} {l : List α} (h : l.length = 5) : ∃ a b c d e, l = [a, b, c, d, e] := by
  match l, h with
  | [a, b, c, d, e], _ => exact ⟨a, b, c, d, e, rfl⟩

/-- A cell that is read as a slice of bytes is one. -/
theorem bytes_cell {H : Type} {enc : TypeId × Value → H} {w : World} {fuel : Nat} {v : Value} {x : DataW H × List MemPlace} (h : DataW.trod enc Try.prog w 0 (fun _ => true) true fuel 22 [v] = some x) :
    ∃ A n c bs, v = .slice A n c ∧ In w A n c bs := by
  obtain ⟨d, p⟩ := x
  rcases open_ints Try.underlying22 Try.underlying5 (by kernel_rfl) h with ⟨hcs, _⟩ | ⟨ad, l, cp, zs, hcs, _⟩
  · simp at hcs
    subst hcs
    obtain ⟨bs, hb⟩ := bytes_in (A := none) (n := 0) (c := 0) (d := d) (p := p) ⟨fuel, h⟩
    exact ⟨_, _, _, bs, rfl, hb⟩
  · simp at hcs
    subst hcs
    obtain ⟨bs, hb⟩ := bytes_in (d := d) (p := p) ⟨fuel, h⟩
    exact ⟨_, _, _, bs, rfl, hb⟩

theorem eth_in {H : Type} {enc : TypeId × Value → H} {w : World} {r : Reach} {b0 : Nat} {v : Value} {d : DataW H} {p : List MemPlace}
    (hv : Value.okWide Try.prog w r b0 24 v) (h : DataW.Trod enc Try.prog w 0 (fun _ => true) true 24 v d p) :
    ∃ (y : Eh) (A : Option Addr) (n c : Nat) (bs : List UInt8), v = .agg #[.int .i64 y.d, .int .i64 y.s, .int .i64 y.t, .int .i64 y.k, .slice A n c] ∧ In w A n c bs := by
  obtain ⟨cs, rfl, hsz⟩ := okWide_struct Try.underlying24 hv
  obtain ⟨fuel, hf⟩ := h
  have hl : cs.toList.length = 5 := by
    rw [Array.length_toList, hsz]
    kernel_rfl
  obtain ⟨c0, c1, c2, c3, c4, hcs⟩ := len5 hl
  simp only [Value.cells] at hf
  rw [hcs] at hf
  obtain ⟨n0, e0⟩ := int_field Try.underlying24 hf 0 _ rfl Try.underlying3 (by kernel_rfl)
  obtain ⟨n1, e1⟩ := int_field Try.underlying24 hf 1 _ rfl Try.underlying3 (by kernel_rfl)
  obtain ⟨n2, e2⟩ := int_field Try.underlying24 hf 2 _ rfl Try.underlying3 (by kernel_rfl)
  obtain ⟨n3, e3⟩ := int_field Try.underlying24 hf 3 _ rfl Try.underlying3 (by kernel_rfl)
  obtain ⟨xs, m, _, _, _, hlen, hx⟩ := DataW.trod_struct Try.underlying24 hf
  have hg : DataW.trod enc Try.prog w 0 (fun _ => true) true m 22 (([c0, c1, c2, c3, c4].drop 4).take (Try.prog.cellsOf 22)) = xs[4]? := hx 4 _ rfl
  have hc1 : Try.prog.cellsOf 22 = 1 := by kernel_rfl
  rw [List.getElem?_eq_getElem (by rw [hlen]; exact (by decide : 4 < 5)), hc1] at hg
  obtain ⟨A, n, c, bs, e4, hin⟩ := bytes_cell hg
  simp at e0 e1 e2 e3
  subst e0 e1 e2 e3 e4
  refine ⟨⟨n0, n1, n2, n3⟩, A, n, c, bs, ?_, hin⟩
  cases cs
  simp only at hcs
  rw [hcs]
end Go.Proofs.Ytaemonjiejgciaa
