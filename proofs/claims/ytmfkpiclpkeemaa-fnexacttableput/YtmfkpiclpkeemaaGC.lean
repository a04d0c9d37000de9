/-
  An address and a prefix that came in: what the walk is told of them, out of their reading. A struct that came in, a list of such structs that came in: what the walk is told of it, out of its reading. A struct that came in, a list of such structs that came in: what the walk is told of it, out of its reading. A table that came in: what the walk is told of it, out of its reading.
-/
import Derived.Test.YtmfkpiclpkeemaaAddrLib
import Derived.ProofKit
import Derived.OpenShut
import Derived.Test.YtmfkpiclpkeemaaFkLib
import Derived.Test.YtmfkpiclpkeemaaCeLib
namespace Go.Proofs.Ytmfkpiclpkeemaa
set_option maxRecDepth 100000
open Go.RowKit Go.ChangeShapes Go.WideShapes Go.ChangeAt

theorem field_int {H : Type} {enc : TypeId × Value → H} {P : Program} {w : World} {base : Nat} {spare : Nat → Bool} {held : Bool} {t : TypeId} {fuel : Nat} {cs : List Value} {x : DataW H × List MemPlace} {fs : Array Field}
    (ht : P.underlying t = some (.struct fs)) (h : DataW.trod enc P w base spare held fuel t cs = some x) (i : Nat) (f : Field) (hf : fs[i]? = some f) (hu : P.underlying f.type = some (.int .i64)) (hc : P.cellsOf f.type = 1) :
    ∃ n, (cs.drop f.offset).take 1 = [.int .i64 n] := by
  obtain ⟨xs, m, _, _, _, hlen, hx⟩ := DataW.trod_struct ht h
  have hi : i < xs.length := by
    rw [hlen]
    exact (Array.getElem?_eq_some_iff.1 hf).1
  have hg := hx i f hf
  rw [List.getElem?_eq_getElem hi, hc] at hg
  obtain ⟨n, hn, _⟩ := DataW.trod_int hu hg
  exact ⟨n, hn⟩
theorem five {α : Type} {l : List α} (h : l.length = 5) : ∃ a b c d e, l = [a, b, c, d, e] := by
  match l, h with
  | [a, b, c, d, e], _ => exact ⟨a, b, c, d, e, rfl⟩
theorem six_ {α : Type} {l : List α} (h : l.length = 6) : ∃ a b c d e f, l = [a, b, c, d, e, f] := by
  match l, h with
  | [a, b, c, d, e, f], _ => exact ⟨a, b, c, d, e, f, rfl⟩

theorem addr_cells {H : Type} {enc : TypeId × Value → H} {w : World} {base : Nat} {spare : Nat → Bool} {held : Bool} {fuel : Nat} {cs : List Value} {x : DataW H × List MemPlace}
    (h : DataW.trod enc Try.prog w base spare held fuel 23 cs = some x) : ∃ y : Ad, cs = [.int .i64 y.k, .int .i64 y.a, .int .i64 y.b, .int .i64 y.c, .int .i64 y.d] := by
  have hl : cs.length = 5 := by
    obtain ⟨_, _, _, _, hl, _⟩ := DataW.trod_struct Try.underlying23 h
    rw [hl]
    kernel_rfl
  obtain ⟨c0, c1, c2, c3, c4, rfl⟩ := five hl
  obtain ⟨n0, e0⟩ := field_int Try.underlying23 h 0 _ rfl Try.underlying3 (by kernel_rfl)
  obtain ⟨n1, e1⟩ := field_int Try.underlying23 h 1 _ rfl Try.underlying3 (by kernel_rfl)
  obtain ⟨n2, e2⟩ := field_int Try.underlying23 h 2 _ rfl Try.underlying3 (by kernel_rfl)
  obtain ⟨n3, e3⟩ := field_int Try.underlying23 h 3 _ rfl Try.underlying3 (by kernel_rfl)
  obtain ⟨n4, e4⟩ := field_int Try.underlying23 h 4 _ rfl Try.underlying3 (by kernel_rfl)
  simp at e0 e1 e2 e3 e4
  subst e0 e1 e2 e3 e4
  exact ⟨⟨n0, n1, n2, n3, n4⟩, rfl⟩

theorem addr_in {H : Type} {enc : TypeId × Value → H} {w : World} {r : Reach} {b0 base : Nat} {spare : Nat → Bool} {held : Bool} {v : Value} {d : DataW H} {p : List MemPlace}
    (hv : Value.okWide Try.prog w r b0 23 v) (h : DataW.Trod enc Try.prog w base spare held 23 v d p) : ∃ y : Ad, v = y.val := by
  obtain ⟨cs, rfl, hsz⟩ := okWide_struct Try.underlying23 hv
  obtain ⟨fuel, hf⟩ := h
  obtain ⟨y, hy⟩ := addr_cells hf
  refine ⟨y, ?_⟩
  simp only [Value.cells] at hy
  cases cs
  try simp only at hy
  rw [hy]
  rfl

theorem pfx_in {H : Type} {enc : TypeId × Value → H} {w : World} {r : Reach} {b0 base : Nat} {spare : Nat → Bool} {held : Bool} {v : Value} {d : DataW H} {p : List MemPlace}
    (hv : Value.okWide Try.prog w r b0 116 v) (h : DataW.Trod enc Try.prog w base spare held 116 v d p) : ∃ y : Pf, v = y.val := by
  obtain ⟨cs, rfl, hsz⟩ := okWide_struct Try.underlying116 hv
  obtain ⟨fuel, hf⟩ := h
  have hl : cs.toList.length = 6 := by
    rw [Array.length_toList, hsz]
    kernel_rfl
  obtain ⟨c0, c1, c2, c3, c4, c5, hcs⟩ := six_ hl
  simp only [Value.cells] at hf
  rw [hcs] at hf
  obtain ⟨n5, e5⟩ := field_int Try.underlying116 hf 1 _ rfl Try.underlying3 (by kernel_rfl)
  obtain ⟨xs, m, _, _, _, hlen, hx⟩ := DataW.trod_struct Try.underlying116 hf
  have hg : DataW.trod enc Try.prog w base spare held m 23 (([c0, c1, c2, c3, c4, c5].drop 0).take (Try.prog.cellsOf 23)) = xs[0]? := hx 0 _ rfl
  have hc5 : Try.prog.cellsOf 23 = 5 := by kernel_rfl
  rw [List.getElem?_eq_getElem (by rw [hlen]; exact Nat.zero_lt_succ _)] at hg
  obtain ⟨y, hy⟩ := addr_cells hg
  rw [hc5] at hy
  simp at e5 hy
  obtain ⟨rfl, rfl, rfl, rfl, rfl⟩ := hy
  subst e5
  refine ⟨⟨y, n5⟩, ?_⟩
  cases cs
  try simp only at hcs
  rw [hcs]
  rfl
end Go.Proofs.Ytmfkpiclpkeemaa

namespace Go.Proofs.Ytmfkpiclpkeemaa
set_option maxRecDepth 100000
open Go.RowKit Go.ChangeShapes Go.WideShapes Go.ChangeAt

theorem len_ad {α : Type} {l : List α} (h : l.length = 5) : ∃ c0 c1 c2 c3 c4, l = [c0, c1, c2, c3, c4] := by
  match l, h with
  | [c0, c1, c2, c3, c4], _ => exact ⟨c0, c1, c2, c3, c4, rfl⟩

theorem ad_rd {H : Type} {enc : TypeId × Value → H} {w : World} {base : Nat} {spare : Nat → Bool} {held : Bool} {fuel : Nat} {cs : List Value} {x : DataW H × List MemPlace}
    (hf : DataW.trod enc Try.prog w base spare held fuel 23 cs = some x) (hl : cs.length = 5) : ∃ y : Ad, cs = [.int .i64 y.k, .int .i64 y.a, .int .i64 y.b, .int .i64 y.c, .int .i64 y.d] := by
  obtain ⟨c0, c1, c2, c3, c4, rfl⟩ := len_ad hl
  obtain ⟨n0, e0⟩ := field_int Try.underlying23 hf 0 _ rfl Try.underlying3 (by kernel_rfl)
  obtain ⟨n1, e1⟩ := field_int Try.underlying23 hf 1 _ rfl Try.underlying3 (by kernel_rfl)
  obtain ⟨n2, e2⟩ := field_int Try.underlying23 hf 2 _ rfl Try.underlying3 (by kernel_rfl)
  obtain ⟨n3, e3⟩ := field_int Try.underlying23 hf 3 _ rfl Try.underlying3 (by kernel_rfl)
  obtain ⟨n4, e4⟩ := field_int Try.underlying23 hf 4 _ rfl Try.underlying3 (by kernel_rfl)
  simp at e0 e1 e2 e3 e4
  subst e0 e1 e2 e3 e4
  exact ⟨⟨n0, n1, n2, n3, n4⟩, rfl⟩

theorem len_ky {α : Type} {l : List α} (h : l.length = 13) : ∃ c0 c1 c2 c3 c4 c5 c6 c7 c8 c9 c10 c11 c12, l = [c0, c1, c2, c3, c4, c5, c6, c7, c8, c9, c10, c11, c12] := by
  match l, h with
  | [c0, c1, c2, c3, c4, c5, c6, c7, c8, c9, c10, c11, c12], _ => exact ⟨c0, c1, c2, c3, c4, c5, c6, c7, c8, c9, c10, c11, c12, rfl⟩

theorem ky_rd {H : Type} {enc : TypeId × Value → H} {w : World} {base : Nat} {spare : Nat → Bool} {held : Bool} {fuel : Nat} {cs : List Value} {x : DataW H × List MemPlace}
    (hf : DataW.trod enc Try.prog w base spare held fuel 25 cs = some x) (hl : cs.length = 13) : ∃ y : Ky, cs = [.int .i64 y.src.k, .int .i64 y.src.a, .int .i64 y.src.b, .int .i64 y.src.c, .int .i64 y.src.d, .int .i64 y.dst.k, .int .i64 y.dst.a, .int .i64 y.dst.b, .int .i64 y.dst.c, .int .i64 y.dst.d, .int .i64 y.proto, .int .i64 y.sport, .int .i64 y.dport] := by
  obtain ⟨c0, c1, c2, c3, c4, c5, c6, c7, c8, c9, c10, c11, c12, rfl⟩ := len_ky hl
  obtain ⟨n2, e2⟩ := field_int Try.underlying25 hf 2 _ rfl Try.underlying3 (by kernel_rfl)
  obtain ⟨n3, e3⟩ := field_int Try.underlying25 hf 3 _ rfl Try.underlying3 (by kernel_rfl)
  obtain ⟨n4, e4⟩ := field_int Try.underlying25 hf 4 _ rfl Try.underlying3 (by kernel_rfl)
  obtain ⟨xs, m, _, _, _, hlen, hx⟩ := DataW.trod_struct Try.underlying25 hf
  have hlen' : xs.length = 5 := hlen
  have h_ad : Try.prog.cellsOf 23 = 5 := by kernel_rfl
  have hg0 : DataW.trod enc Try.prog w base spare held m 23 (([c0, c1, c2, c3, c4, c5, c6, c7, c8, c9, c10, c11, c12].drop 0).take (Try.prog.cellsOf 23)) = xs[0]? := hx 0 _ rfl
  rw [List.getElem?_eq_getElem (by omega)] at hg0
  obtain ⟨y0, hy0⟩ := ad_rd hg0 (by rw [h_ad]; rfl)
  rw [h_ad] at hy0
  have hg1 : DataW.trod enc Try.prog w base spare held m 23 (([c0, c1, c2, c3, c4, c5, c6, c7, c8, c9, c10, c11, c12].drop 5).take (Try.prog.cellsOf 23)) = xs[1]? := hx 1 _ rfl
  rw [List.getElem?_eq_getElem (by omega)] at hg1
  obtain ⟨y1, hy1⟩ := ad_rd hg1 (by rw [h_ad]; rfl)
  rw [h_ad] at hy1
  simp at e2 e3 e4 hy0 hy1
  obtain ⟨rfl, rfl, rfl, rfl, rfl⟩ := hy0
  obtain ⟨rfl, rfl, rfl, rfl, rfl⟩ := hy1
  subst e2 e3 e4
  exact ⟨⟨y0, y1, n2, n3, n4⟩, rfl⟩

theorem len_fk {α : Type} {l : List α} (h : l.length = 14) : ∃ c0 c1 c2 c3 c4 c5 c6 c7 c8 c9 c10 c11 c12 c13, l = [c0, c1, c2, c3, c4, c5, c6, c7, c8, c9, c10, c11, c12, c13] := by
  match l, h with
  | [c0, c1, c2, c3, c4, c5, c6, c7, c8, c9, c10, c11, c12, c13], _ => exact ⟨c0, c1, c2, c3, c4, c5, c6, c7, c8, c9, c10, c11, c12, c13, rfl⟩

theorem fk_rd {H : Type} {enc : TypeId × Value → H} {w : World} {base : Nat} {spare : Nat → Bool} {held : Bool} {fuel : Nat} {cs : List Value} {x : DataW H × List MemPlace}
    (hf : DataW.trod enc Try.prog w base spare held fuel 27 cs = some x) (hl : cs.length = 14) : ∃ y : Fk, cs = [.int .i64 y.tenant, .int .i64 y.key.src.k, .int .i64 y.key.src.a, .int .i64 y.key.src.b, .int .i64 y.key.src.c, .int .i64 y.key.src.d, .int .i64 y.key.dst.k, .int .i64 y.key.dst.a, .int .i64 y.key.dst.b, .int .i64 y.key.dst.c, .int .i64 y.key.dst.d, .int .i64 y.key.proto, .int .i64 y.key.sport, .int .i64 y.key.dport] := by
  obtain ⟨c0, c1, c2, c3, c4, c5, c6, c7, c8, c9, c10, c11, c12, c13, rfl⟩ := len_fk hl
  obtain ⟨n0, e0⟩ := field_int Try.underlying27 hf 0 _ rfl Try.underlying3 (by kernel_rfl)
  obtain ⟨xs, m, _, _, _, hlen, hx⟩ := DataW.trod_struct Try.underlying27 hf
  have hlen' : xs.length = 2 := hlen
  have h_ky : Try.prog.cellsOf 25 = 13 := by kernel_rfl
  have hg1 : DataW.trod enc Try.prog w base spare held m 25 (([c0, c1, c2, c3, c4, c5, c6, c7, c8, c9, c10, c11, c12, c13].drop 1).take (Try.prog.cellsOf 25)) = xs[1]? := hx 1 _ rfl
  rw [List.getElem?_eq_getElem (by omega)] at hg1
  obtain ⟨y1, hy1⟩ := ky_rd hg1 (by rw [h_ky]; rfl)
  rw [h_ky] at hy1
  simp at e0 hy1
  obtain ⟨rfl, rfl, rfl, rfl, rfl, rfl, rfl, rfl, rfl, rfl, rfl, rfl, rfl⟩ := hy1
  subst e0
  exact ⟨⟨n0, y1⟩, rfl⟩

theorem fk_in {H : Type} {enc : TypeId × Value → H} {w : World} {r : Reach} {b0 base : Nat} {spare : Nat → Bool} {held : Bool} {v : Value} {d : DataW H} {p : List MemPlace}
    (hv : Value.okWide Try.prog w r b0 27 v) (h : DataW.Trod enc Try.prog w base spare held 27 v d p) : ∃ y : Fk, v = y.val := by
  obtain ⟨cs, rfl, hsz⟩ := okWide_struct Try.underlying27 hv
  obtain ⟨fuel, hf⟩ := h
  have hl : cs.toList.length = 14 := by
    rw [Array.length_toList, hsz]
    kernel_rfl
  obtain ⟨y, hy⟩ := fk_rd hf hl
  refine ⟨y, ?_⟩
  simp only [Value.cells] at hy
  cases cs
  try simp only at hy
  rw [hy]
  rfl

theorem listed_fk {α : Type} (n : Nat) (P : Nat → α → Prop) (h : ∀ i, i < n → ∃ y, P i y) : ∃ ys : List α, ys.length = n ∧ ∀ i (hi : i < ys.length), P i ys[i] := by
  induction n with
  | zero => exact ⟨[], rfl, fun i hi => absurd hi (by simp)⟩
  | succ n ih =>
    obtain ⟨ys, hl, hp⟩ := ih (fun i hi => h i (by omega))
    obtain ⟨y, hy⟩ := h n (by omega)
    refine ⟨ys ++ [y], by simp [hl], fun i hi => ?_⟩
    by_cases hi2 : i < ys.length
    · rw [List.getElem_append_left hi2]
      exact hp i hi2
    · have : i = n := by simp at hi; omega
      subst this
      rw [List.getElem_append_right (by omega)]
      simpa using hy
theorem addr_add_fk (a : Addr) (k l : Nat) : (a.add k).add l = a.add (k + l) := by
  obtain ⟨g, o, s⟩ := a
  by_cases hk : k = 0
  · subst hk; simp [Addr.add]
  · by_cases hl : l = 0
    · subst hl; simp [Addr.add]
    · simp only [Addr.add, hk, hl, if_false, show ¬ (k + l = 0) by omega, Nat.add_assoc]

end Go.Proofs.Ytmfkpiclpkeemaa

namespace Go.Proofs.Ytmfkpiclpkeemaa
set_option maxRecDepth 100000
open Go.RowKit Go.ChangeShapes Go.WideShapes Go.ChangeAt

namespace Flat
theorem field_bool {H : Type} {enc : TypeId × Value → H} {P : Program} {w : World} {base : Nat} {spare : Nat → Bool} {held : Bool} {t : TypeId} {fuel : Nat} {cs : List Value} {x : DataW H × List MemPlace} {fs : Array Field}
    (ht : P.underlying t = some (.struct fs)) (h : DataW.trod enc P w base spare held fuel t cs = some x) (i : Nat) (f : Field) (hf : fs[i]? = some f) (hu : P.underlying f.type = some .bool) (hc : P.cellsOf f.type = 1) :
    ∃ b, (cs.drop f.offset).take 1 = [.bool b] := by
  obtain ⟨xs, m, _, _, _, hlen, hx⟩ := DataW.trod_struct ht h
  have hi : i < xs.length := by
    rw [hlen]
    exact (Array.getElem?_eq_some_iff.1 hf).1
  have hg := hx i f hf
  rw [List.getElem?_eq_getElem hi, hc] at hg
  obtain ⟨n, hn, _⟩ := DataW.trod_bool hu hg
  exact ⟨n, hn⟩
end Flat
open Flat

theorem len_ce {α : Type} {l : List α} (h : l.length = 16) : ∃ c0 c1 c2 c3 c4 c5 c6 c7 c8 c9 c10 c11 c12 c13 c14 c15, l = [c0, c1, c2, c3, c4, c5, c6, c7, c8, c9, c10, c11, c12, c13, c14, c15] := by
  match l, h with
  | [c0, c1, c2, c3, c4, c5, c6, c7, c8, c9, c10, c11, c12, c13, c14, c15], _ => exact ⟨c0, c1, c2, c3, c4, c5, c6, c7, c8, c9, c10, c11, c12, c13, c14, c15, rfl⟩

theorem ce_rd {H : Type} {enc : TypeId × Value → H} {w : World} {base : Nat} {spare : Nat → Bool} {held : Bool} {fuel : Nat} {cs : List Value} {x : DataW H × List MemPlace}
    (hf : DataW.trod enc Try.prog w base spare held fuel 132 cs = some x) (hl : cs.length = 16) : ∃ y : Ce, cs = [.bool y.used, .int .i64 y.key.tenant, .int .i64 y.key.key.src.k, .int .i64 y.key.key.src.a, .int .i64 y.key.key.src.b, .int .i64 y.key.key.src.c, .int .i64 y.key.key.src.d, .int .i64 y.key.key.dst.k, .int .i64 y.key.key.dst.a, .int .i64 y.key.key.dst.b, .int .i64 y.key.key.dst.c, .int .i64 y.key.key.dst.d, .int .i64 y.key.key.proto, .int .i64 y.key.key.sport, .int .i64 y.key.key.dport, .int .i64 y.num] := by
  obtain ⟨c0, c1, c2, c3, c4, c5, c6, c7, c8, c9, c10, c11, c12, c13, c14, c15, rfl⟩ := len_ce hl
  obtain ⟨n0, e0⟩ := field_bool Try.underlying132 hf 0 _ rfl Try.underlying4 (by kernel_rfl)
  obtain ⟨n2, e2⟩ := field_int Try.underlying132 hf 2 _ rfl Try.underlying3 (by kernel_rfl)
  obtain ⟨xs, m, _, _, _, hlen, hx⟩ := DataW.trod_struct Try.underlying132 hf
  have hlen' : xs.length = 3 := hlen
  have h_fk : Try.prog.cellsOf 27 = 14 := by kernel_rfl
  have hg1 : DataW.trod enc Try.prog w base spare held m 27 (([c0, c1, c2, c3, c4, c5, c6, c7, c8, c9, c10, c11, c12, c13, c14, c15].drop 1).take (Try.prog.cellsOf 27)) = xs[1]? := hx 1 _ rfl
  rw [List.getElem?_eq_getElem (by omega)] at hg1
  obtain ⟨y1, hy1⟩ := fk_rd hg1 (by rw [h_fk]; rfl)
  rw [h_fk] at hy1
  simp at e0 e2 hy1
  obtain ⟨rfl, rfl, rfl, rfl, rfl, rfl, rfl, rfl, rfl, rfl, rfl, rfl, rfl, rfl⟩ := hy1
  subst e0 e2
  exact ⟨⟨n0, y1, n2⟩, rfl⟩

theorem ce_in {H : Type} {enc : TypeId × Value → H} {w : World} {r : Reach} {b0 base : Nat} {spare : Nat → Bool} {held : Bool} {v : Value} {d : DataW H} {p : List MemPlace}
    (hv : Value.okWide Try.prog w r b0 132 v) (h : DataW.Trod enc Try.prog w base spare held 132 v d p) : ∃ y : Ce, v = y.val := by
  obtain ⟨cs, rfl, hsz⟩ := okWide_struct Try.underlying132 hv
  obtain ⟨fuel, hf⟩ := h
  have hl : cs.toList.length = 16 := by
    rw [Array.length_toList, hsz]
    kernel_rfl
  obtain ⟨y, hy⟩ := ce_rd hf hl
  refine ⟨y, ?_⟩
  simp only [Value.cells] at hy
  cases cs
  try simp only at hy
  rw [hy]
  rfl

theorem listed_ce {α : Type} (n : Nat) (P : Nat → α → Prop) (h : ∀ i, i < n → ∃ y, P i y) : ∃ ys : List α, ys.length = n ∧ ∀ i (hi : i < ys.length), P i ys[i] := by
  induction n with
  | zero => exact ⟨[], rfl, fun i hi => absurd hi (by simp)⟩
  | succ n ih =>
    obtain ⟨ys, hl, hp⟩ := ih (fun i hi => h i (by omega))
    obtain ⟨y, hy⟩ := h n (by omega)
    refine ⟨ys ++ [y], by simp [hl], fun i hi => ?_⟩
    by_cases hi2 : i < ys.length
    · rw [List.getElem_append_left hi2]
      exact hp i hi2
    · have : i = n := by simp at hi; omega
      subst this
      rw [List.getElem_append_right (by omega)]
      simpa using hy
theorem addr_add_ce (a : Addr) (k l : Nat) : (a.add k).add l = a.add (k + l) := by
  obtain ⟨g, o, s⟩ := a
  by_cases hk : k = 0
  · subst hk; simp [Addr.add]
  · by_cases hl : l = 0
    · subst hl; simp [Addr.add]
    · simp only [Addr.add, hk, hl, if_false, show ¬ (k + l = 0) by omega, Nat.add_assoc]

theorem ces_in {H : Type} {enc : TypeId × Value → H} {w : World} {A : Option Addr} {n c : Nat} {d : DataW H} {p : List MemPlace} (h : DataW.Trod enc Try.prog w 0 (fun _ => true) true 45 (.slice A n c) d p) :
    ∃ rs, FIn Ce.cells w A n c rs := by
  obtain ⟨fuel, h⟩ := h
  simp only [Value.cells] at h
  rcases DataW.trod_slice Try.underlying45 h with ⟨hcs, _⟩ | ⟨a, len, cap, elems, rest, n', _, hcs, _, _, hl, hm, hlen, hel, _, _⟩
  · simp at hcs
    obtain ⟨rfl, rfl, rfl⟩ := hcs
    exact ⟨[], rfl, Nat.le_refl _, Nat.zero_le _, RV.nil_ _ _ _⟩
  · simp at hcs
    obtain ⟨rfl, rfl, rfl⟩ := hcs
    have hc2 : Try.prog.cellsOf 132 = 16 := by kernel_rfl
    have each : ∀ i, i < n → ∃ y : Ce, ∀ j v, y.cells[j]? = some v → w.cell? (a.add (i * 16 + j)) = some v := by
      intro i hi
      have h1 := hel i hi
      rw [List.getElem?_eq_getElem (by omega), hc2, Option.bind_eq_some_iff] at h1
      obtain ⟨cs, h2, h3⟩ := h1
      have hs := World.cells?_some h2
      obtain ⟨y, hy⟩ := ce_rd h3 hs.2.1
      obtain rfl : cs = y.cells := hy
      refine ⟨y, fun j v hv => ?_⟩
      have hj : j < 16 := by
        have := (List.getElem?_eq_some_iff.1 hv).1
        rwa [Ce.cells_length] at this
      have a0 := hs.2.2 j hj
      rw [addr_add_ce] at a0
      rw [a0]
      exact hv
    obtain ⟨ys, hyl, hys⟩ := listed_ce n _ each
    refine ⟨ys, hyl, hl, hm, fun hp => ?_⟩
    rw [fl_length Ce.cells_length] at hp
    obtain ⟨g, o, spot⟩ := a
    have h0 := hys 0 (by omega) 0 _ rfl
    have hspot : spot = none := by simpa [Addr.add] using World.cell?_spot h0
    subst hspot
    refine ⟨g, o, rfl, ?_, fun j u hu => ?_⟩
    · have := World.block_lt_of_cell? w _ h0
      rw [Addr.add_mid g o] at this
      exact this
    · have hj : j < ys.length * 16 := by
        rw [← fl_length Ce.cells_length]
        exact (List.getElem?_eq_some_iff.1 hu).1
      have hi : j / 16 < ys.length := by omega
      have e2 : j / 16 * 16 + j % 16 = j := by omega
      have h3 := fl_get Ce.cells_length ys (j / 16) (j % 16) hi (Nat.mod_lt _ (by omega))
      rw [e2, hu] at h3
      have h4 := hys (j / 16) hi (j % 16) u h3.symm
      rw [Addr.add_mid g o, e2] at h4
      exact h4
end Go.Proofs.Ytmfkpiclpkeemaa

namespace Go.Proofs.Ytmfkpiclpkeemaa
set_option maxRecDepth 100000
open Go.RowKit Go.ChangeShapes Go.WideShapes Go.ChangeAt

theorem len2 {α : Type} {l : List α} (h : l.length = 2) : ∃ a b, l = [a, b] := by
  match l, h with
  | [a, b], _ => exact ⟨a, b, rfl⟩

/-- A cell that is read as a slice of cells of a table is one. -/
theorem ces_cell {H : Type} {enc : TypeId × Value → H} {w : World} {fuel : Nat} {v : Value} {x : DataW H × List MemPlace} (h : DataW.trod enc Try.prog w 0 (fun _ => true) true fuel 45 [v] = some x) :
    ∃ A n c rs, v = .slice A n c ∧ FIn Ce.cells w A n c rs := by
  obtain ⟨d, p⟩ := x
  rcases DataW.trod_slice Try.underlying45 h with ⟨hcs, _⟩ | ⟨a, len, cap, elems, rest, n', _, hcs, _⟩
  · simp at hcs
    subst hcs
    obtain ⟨rs, hr⟩ := ces_in (A := none) (n := 0) (c := 0) (d := d) (p := p) ⟨fuel, h⟩
    exact ⟨_, _, _, rs, rfl, hr⟩
  · simp at hcs
    subst hcs
    obtain ⟨rs, hr⟩ := ces_in (d := d) (p := p) ⟨fuel, h⟩
    exact ⟨_, _, _, rs, rfl, hr⟩

theorem tab_in {H : Type} {enc : TypeId × Value → H} {w : World} {r : Reach} {b0 : Nat} {v : Value} {d : DataW H} {p : List MemPlace}
    (hv : Value.okWide Try.prog w r b0 47 v) (h : DataW.Trod enc Try.prog w 0 (fun _ => true) true 47 v d p) :
    ∃ (s : Int) (A : Option Addr) (n c : Nat) (rs : List Ce), v = .agg #[.int .i64 s, .slice A n c] ∧ FIn Ce.cells w A n c rs := by
  obtain ⟨cs, rfl, hsz⟩ := okWide_struct Try.underlying47 hv
  obtain ⟨fuel, hf⟩ := h
  have hl : cs.toList.length = 2 := by
    rw [Array.length_toList, hsz]
    kernel_rfl
  obtain ⟨c0, c1, hcs⟩ := len2 hl
  simp only [Value.cells] at hf
  rw [hcs] at hf
  obtain ⟨n0, e0⟩ := field_int Try.underlying47 hf 0 _ rfl Try.underlying3 (by kernel_rfl)
  obtain ⟨xs, m, _, _, _, hlen, hx⟩ := DataW.trod_struct Try.underlying47 hf
  have hg : DataW.trod enc Try.prog w 0 (fun _ => true) true m 45 (([c0, c1].drop 1).take (Try.prog.cellsOf 45)) = xs[1]? := hx 1 _ rfl
  have hc1 : Try.prog.cellsOf 45 = 1 := by kernel_rfl
  rw [List.getElem?_eq_getElem (by rw [hlen]; exact (by decide : 1 < 2)), hc1] at hg
  obtain ⟨A, n, c, rs, e1, hin⟩ := ces_cell hg
  simp at e0
  subst e0 e1
  refine ⟨n0, A, n, c, rs, ?_, hin⟩
  cases cs
  try simp only at hcs
  rw [hcs]
end Go.Proofs.Ytmfkpiclpkeemaa
