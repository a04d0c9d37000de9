/-
  A struct that came in, a list of such structs that came in: what the walk is told of it, out of its reading.
-/
import Derived.Test.YtmfkpiclpkeemaaFkLib
import Derived.Test.YtmfkpiclpkeemaaInAddr
namespace Go.Proofs.Ytmfkpiclpkeemaa
set_option maxRecDepth 100000
open Go.RowKit Go.ChangeShapes Go.WideShapes Go.ChangeAt

theorem len_ad {α : Type} {l : List α} (h : l.length = 5) : ∃ c0 c1 c2 c3 c4, l = [c0, c1, c2, c3, c4] := by
  match l, h with
  | [c0, c1, c2, c3, c4], _ => exact ⟨c0, c1, c2, c3, c4, rfl⟩

theorem ad_rd {H : Type} {enc : TypeId × Value → H} {w : World} {base : Nat} {spare : Nat → Bool} {held : Bool} {fuel : Nat} {cs : List Value} {x : DataW H × List MemPlace}
    (hf : DataW.trod enc Try.prog w base spare held fuel 23 cs = some x) (hl : cs.length = 5) : ∃ y : Ad, cs = [.int .i64 y.k, .int .i64 y.a, .int .i64 y.b, .int .i64 y.c, .int .i64 y.d] := by
  obtain ⟨c0, c1, c2, c3, c4, rfl⟩ := len_ad hl
  obtain ⟨n0, e0⟩ := field_int Try.underlying23 hf 0 _ rfl Try.underlying3 (by kernel_rfl)
  obtain ⟨n1, e1⟩ := field_int Try.underlying23 hf 1 _ rfl Try.underlying3 (by kernel_rfl)
  obtain ⟨n2, e2⟩ := field_int Try.underlying23 hf 2 _ rfl Try.underlying3 (by kernel_rfl)
  obtain ⟨n3, e3⟩ := field_int Try.underlying23 hf 3 _ rfl Try.underlying3 (by kernel_rfl)
  obtain ⟨n4, e4⟩ := field_int Try.underlying23 hf 4 _ rfl Try.underlying3 (by kernel_rfl)
  simp at e0 e1 e2 e3 e4
  subst e0 e1 e2 e3 e4
  exact ⟨⟨n0, n1, n2, n3, n4⟩, rfl⟩

theorem len_ky {α : Type} {l : List α} (h : l.length = 13) : ∃ c0 c1 c2 c3 c4 c5 c6 c7 c8 c9 c10 c11 c12, l = [c0, c1, c2, c3, c4, c5, c6, c7, c8, c9, c10, c11, c12] := by
  match l, h with
  | [c0, c1, c2, c3, c4, c5, c6, c7, c8, c9, c10, c11, c12], _ => exact ⟨c0, c1, c2, c3, c4, c5, c6, c7, c8, c9, c10, c11, c12, rfl⟩

theorem ky_rd {H : Type} {enc : TypeId × Value → H} {w : World} {base : Nat} {spare : Nat → Bool} {held : Bool} {fuel : Nat} {cs : List Value} {x : DataW H × List MemPlace}
    (hf : DataW.trod enc Try.prog w base spare held fuel 25 cs = some x) (hl : cs.length = 13) : ∃ y : Ky, cs = [.int .i64 y.src.k, .int .i64 y.src.a, .int .i64 y.src.b, .int .i64 y.src.c, .int .i64 y.src.d, .int .i64 y.dst.k, .int .i64 y.dst.a, .int .i64 y.dst.b, .int .i64 y.dst.c, .int .i64 y.dst.d, .int .i64 y.proto, .int .i64 y.sport, .int .i64 y.dport] := by
  obtain ⟨c0, c1, c2, c3, c4, c5, c6, c7, c8, c9, c10, c11, c12, rfl⟩ := len_ky hl
  obtain ⟨n2, e2⟩ := field_int Try.underlying25 hf 2 _ rfl Try.underlying3 (by kernel_rfl)
  obtain ⟨n3, e3⟩ := field_int Try.underlying25 hf 3 _ rfl Try.underlying3 (by kernel_rfl)
  obtain ⟨n4, e4⟩ := field_int Try.underlying25 hf 4 _ rfl Try.underlying3 (by kernel_rfl)
  obtain ⟨xs, m, _, _, _, hlen, hx⟩ := DataW.trod_struct Try.underlying25 hf
  have hlen' : xs.length = 5 := hlen
  have h_ad : Try.prog.cellsOf 23 = 5 := by kernel_rfl
  have hg0 : DataW.trod enc Try.prog w base spare held m 23 (([c0, c1, c2, c3, c4, c5, c6, c7, c8, c9, c10, c11, c12].drop 0).take (Try.prog.cellsOf 23)) = xs[0]? := hx 0 _ rfl
  rw [List.getElem?_eq_getElem (by omega)] at hg0
  obtain ⟨y0, hy0⟩ := ad_rd hg0 (by rw [h_ad]; rfl)
  rw [h_ad] at hy0
  have hg1 : DataW.trod enc Try.prog w base spare held m 23 (([c0, c1, c2, c3, c4, c5, c6, c7, c8, c9, c10, c11, c12].drop 5).take (Try.prog.cellsOf 23)) = xs[1]? := hx 1 _ rfl
  rw [List.getElem?_eq_getElem (by omega)] at hg1
  obtain ⟨y1, hy1⟩ := ad_rd hg1 (by rw [h_ad]; rfl)
  rw [h_ad] at hy1
  simp at e2 e3 e4 hy0 hy1
  obtain ⟨rfl, rfl, rfl, rfl, rfl⟩ := hy0
  obtain ⟨rfl, rfl, rfl, rfl, rfl⟩ := hy1
  subst e2 e3 e4
  exact ⟨⟨y0, y1, n2, n3, n4⟩, rfl⟩

theorem len_fk {α : Type} {l : List α} (h : l.length = 14) : ∃ c0 c1 c2 c3 c4 c5 c6 c7 c8 c9 c10 c11 c12 c13, l = [c0, c1, c2, c3, c4, c5, c6, c7, c8, c9, c10, c11, c12, c13] := by
  match l, h with
  | [c0, c1, c2, c3, c4, c5, c6, c7, c8, c9, c10, c11, c12, c13], _ => exact ⟨c0, c1, c2, c3, c4, c5, c6, c7, c8, c9, c10, c11, c12, c13, rfl⟩

theorem fk_rd {H : Type} {enc : TypeId × Value → H} {w : World} {base : Nat} {spare : Nat → Bool} {held : Bool} {fuel : Nat} {cs : List Value} {x : DataW H × List MemPlace}
    (hf : DataW.trod enc Try.prog w base spare held fuel 27 cs = some x) (hl : cs.length = 14) : ∃ y : Fk, cs = [.int .i64 y.tenant, .int .i64 y.key.src.k, .int .i64 y.key.src.a, .int .i64 y.key.src.b, .int .i64 y.key.src.c, .int .i64 y.key.src.d, .int .i64 y.key.dst.k, .int .i64 y.key.dst.a, .int .i64 y.key.dst.b, .int .i64 y.key.dst.c, .int .i64 y.key.dst.d, .int .i64 y.key.proto, .int .i64 y.key.sport, .int .i64 y.key.dport] := by
  obtain ⟨c0, c1, c2, c3, c4, c5, c6, c7, c8, c9, c10, c11, c12, c13, rfl⟩ := len_fk hl
  obtain ⟨n0, e0⟩ := field_int Try.underlying27 hf 0 _ rfl Try.underlying3 (by kernel_rfl)
  obtain ⟨xs, m, _, _, _, hlen, hx⟩ := DataW.trod_struct Try.underlying27 hf
  have hlen' : xs.length = 2 := hlen
  have h_ky : Try.prog.cellsOf 25 = 13 := by kernel_rfl
  have hg1 : DataW.trod enc Try.prog w base spare held m 25 (([c0, c1, c2, c3, c4, c5, c6, c7, c8, c9, c10, c11, c12, c13].drop 1).take (Try.prog.cellsOf 25)) = xs[1]? := hx 1 _ rfl
  rw [List.getElem?_eq_getElem (by omega)] at hg1
  obtain ⟨y1, hy1⟩ := ky_rd hg1 (by rw [h_ky]; rfl)
  rw [h_ky] at hy1
  simp at e0 hy1
  obtain ⟨rfl, rfl, rfl, rfl, rfl, rfl, rfl, rfl, rfl, rfl, rfl, rfl, rfl⟩ := hy1
  subst e0
  exact ⟨⟨n0, y1⟩, rfl⟩

theorem fk_in {H : Type} {enc : TypeId × Value → H} {w : World} {r : Reach} {b0 base : Nat} {spare : Nat → Bool} {held : Bool} {v : Value} {d : DataW H} {p : List MemPlace}
    (hv : Value.okWide Try.prog w r b0 27 v) (h : DataW.Trod enc Try.prog w base spare held 27 v d p) : ∃ y : Fk, v = y.val := by
  obtain ⟨cs, rfl, hsz⟩ := okWide_struct Try.underlying27 hv
  obtain ⟨fuel, hf⟩ := h
  have hl : cs.toList.length = 14 := by
    rw [Array.length_toList, hsz]
    kernel_rfl
  obtain ⟨y, hy⟩ := fk_rd hf hl
  refine ⟨y, ?_⟩
  simp only [Value.cells] at hy
  cases cs
  try simp only at hy
  rw [hy]
  rfl

theorem listed_fk {α : Type} (n : Nat) (P : Nat → α → Prop) (h : ∀ i, i < n → ∃ y, P i y) : ∃ ys : List α, ys.length = n ∧ ∀ i (hi : i < ys.length), P i ys[i] := by
  induction n with
  | zero => exact ⟨[], rfl, fun i hi => absurd hi (by simp)⟩
  | succ n ih =>
    obtain ⟨ys, hl, hp⟩ := ih (fun i hi => h i (by omega))
    obtain ⟨y, hy⟩ := h n (by omega)
    refine ⟨ys ++ [y], by simp [hl], fun i hi => ?_⟩
    by_cases hi2 : i < ys.length
    · rw [List.getElem_append_left hi2]
      exact hp i hi2
    · have : i = n := by simp at hi; omega
      subst this
      rw [List.getElem_append_right (by omega)]
      simpa using hy
theorem addr_add_fk (a : Addr) (k l : Nat) : (a.add k).add l = a.add (k + l) := by
  obtain ⟨g, o, s⟩ := a
  by_cases hk : k = 0
  · subst hk; simp [Addr.add]
  · by_cases hl : l = 0
    · subst hl; simp [Addr.add]
    · simp only [Addr.add, hk, hl, if_false, show ¬ (k + l = 0) by omega, Nat.add_assoc]

end Go.Proofs.Ytmfkpiclpkeemaa
