/-
  A struct that came in, a list of such structs that came in: what the walk is told of it, out of its reading.
-/
import Derived.Test.YtdndanbalmoklaaMoLib
import Derived.Test.YtdndanbalmoklaaInAddr
namespace Go.Proofs.Ytdndanbalmoklaa
set_option maxRecDepth 100000
open Go.RowKit Go.ChangeShapes Go.WideShapes Go.ChangeAt

theorem len_ad {α : Type} {l : List α} (h : l.length = 5) : ∃ c0 c1 c2 c3 c4, l = [c0, c1, c2, c3, c4] := by
  match l, h with
  | [c0, c1, c2, c3, c4], _ => exact ⟨c0, c1, c2, c3, c4, rfl⟩

theorem ad_rd {H : Type} {enc : TypeId × Value → H} {w : World} {base : Nat} {spare : Nat → Bool} {held : Bool} {fuel : Nat} {cs : List Value} {x : DataW H × List MemPlace}
    (hf : DataW.trod enc Try.prog w base spare held fuel 23 cs = some x) (hl : cs.length = 5) : ∃ y : Ad, cs = [.int .i64 y.k, .int .i64 y.a, .int .i64 y.b, .int .i64 y.c, .int .i64 y.d] := by
  obtain ⟨c0, c1, c2, c3, c4, rfl⟩ := len_ad hl
  obtain ⟨n0, e0⟩ := field_int Try.underlying23 hf 0 _ rfl Try.underlying3 (by kernel_rfl)
  obtain ⟨n1, e1⟩ := field_int Try.underlying23 hf 1 _ rfl Try.underlying3 (by kernel_rfl)
  obtain ⟨n2, e2⟩ := field_int Try.underlying23 hf 2 _ rfl Try.underlying3 (by kernel_rfl)
  obtain ⟨n3, e3⟩ := field_int Try.underlying23 hf 3 _ rfl Try.underlying3 (by kernel_rfl)
  obtain ⟨n4, e4⟩ := field_int Try.underlying23 hf 4 _ rfl Try.underlying3 (by kernel_rfl)
  simp at e0 e1 e2 e3 e4
  subst e0 e1 e2 e3 e4
  exact ⟨⟨n0, n1, n2, n3, n4⟩, rfl⟩

theorem len_pf {α : Type} {l : List α} (h : l.length = 6) : ∃ c0 c1 c2 c3 c4 c5, l = [c0, c1, c2, c3, c4, c5] := by
  match l, h with
  | [c0, c1, c2, c3, c4, c5], _ => exact ⟨c0, c1, c2, c3, c4, c5, rfl⟩

theorem pf_rd {H : Type} {enc : TypeId × Value → H} {w : World} {base : Nat} {spare : Nat → Bool} {held : Bool} {fuel : Nat} {cs : List Value} {x : DataW H × List MemPlace}
    (hf : DataW.trod enc Try.prog w base spare held fuel 25 cs = some x) (hl : cs.length = 6) : ∃ y : Pf, cs = [.int .i64 y.base.k, .int .i64 y.base.a, .int .i64 y.base.b, .int .i64 y.base.c, .int .i64 y.base.d, .int .i64 y.len] := by
  obtain ⟨c0, c1, c2, c3, c4, c5, rfl⟩ := len_pf hl
  obtain ⟨n1, e1⟩ := field_int Try.underlying25 hf 1 _ rfl Try.underlying3 (by kernel_rfl)
  obtain ⟨xs, m, _, _, _, hlen, hx⟩ := DataW.trod_struct Try.underlying25 hf
  have hlen' : xs.length = 2 := hlen
  have h_ad : Try.prog.cellsOf 23 = 5 := by kernel_rfl
  have hg0 : DataW.trod enc Try.prog w base spare held m 23 (([c0, c1, c2, c3, c4, c5].drop 0).take (Try.prog.cellsOf 23)) = xs[0]? := hx 0 _ rfl
  rw [List.getElem?_eq_getElem (by omega)] at hg0
  obtain ⟨y0, hy0⟩ := ad_rd hg0 (by rw [h_ad]; rfl)
  rw [h_ad] at hy0
  simp at e1 hy0
  obtain ⟨rfl, rfl, rfl, rfl, rfl⟩ := hy0
  subst e1
  exact ⟨⟨y0, n1⟩, rfl⟩

theorem len_mo {α : Type} {l : List α} (h : l.length = 17) : ∃ c0 c1 c2 c3 c4 c5 c6 c7 c8 c9 c10 c11 c12 c13 c14 c15 c16, l = [c0, c1, c2, c3, c4, c5, c6, c7, c8, c9, c10, c11, c12, c13, c14, c15, c16] := by
  match l, h with
  | [c0, c1, c2, c3, c4, c5, c6, c7, c8, c9, c10, c11, c12, c13, c14, c15, c16], _ => exact ⟨c0, c1, c2, c3, c4, c5, c6, c7, c8, c9, c10, c11, c12, c13, c14, c15, c16, rfl⟩

theorem mo_rd {H : Type} {enc : TypeId × Value → H} {w : World} {base : Nat} {spare : Nat → Bool} {held : Bool} {fuel : Nat} {cs : List Value} {x : DataW H × List MemPlace}
    (hf : DataW.trod enc Try.prog w base spare held fuel 27 cs = some x) (hl : cs.length = 17) : ∃ y : Mo, cs = [.int .i64 y.kind, .int .i64 y.frm.base.k, .int .i64 y.frm.base.a, .int .i64 y.frm.base.b, .int .i64 y.frm.base.c, .int .i64 y.frm.base.d, .int .i64 y.frm.len, .int .i64 y.to.base.k, .int .i64 y.to.base.a, .int .i64 y.to.base.b, .int .i64 y.to.base.c, .int .i64 y.to.base.d, .int .i64 y.to.len, .int .i64 y.proto, .int .i64 y.lo, .int .i64 y.hi, .int .i64 y.n] := by
  obtain ⟨c0, c1, c2, c3, c4, c5, c6, c7, c8, c9, c10, c11, c12, c13, c14, c15, c16, rfl⟩ := len_mo hl
  obtain ⟨n0, e0⟩ := field_int Try.underlying27 hf 0 _ rfl Try.underlying3 (by kernel_rfl)
  obtain ⟨n3, e3⟩ := field_int Try.underlying27 hf 3 _ rfl Try.underlying3 (by kernel_rfl)
  obtain ⟨n4, e4⟩ := field_int Try.underlying27 hf 4 _ rfl Try.underlying3 (by kernel_rfl)
  obtain ⟨n5, e5⟩ := field_int Try.underlying27 hf 5 _ rfl Try.underlying3 (by kernel_rfl)
  obtain ⟨n6, e6⟩ := field_int Try.underlying27 hf 6 _ rfl Try.underlying3 (by kernel_rfl)
  obtain ⟨xs, m, _, _, _, hlen, hx⟩ := DataW.trod_struct Try.underlying27 hf
  have hlen' : xs.length = 7 := hlen
  have h_pf : Try.prog.cellsOf 25 = 6 := by kernel_rfl
  have hg1 : DataW.trod enc Try.prog w base spare held m 25 (([c0, c1, c2, c3, c4, c5, c6, c7, c8, c9, c10, c11, c12, c13, c14, c15, c16].drop 1).take (Try.prog.cellsOf 25)) = xs[1]? := hx 1 _ rfl
  rw [List.getElem?_eq_getElem (by omega)] at hg1
  obtain ⟨y1, hy1⟩ := pf_rd hg1 (by rw [h_pf]; rfl)
  rw [h_pf] at hy1
  have hg2 : DataW.trod enc Try.prog w base spare held m 25 (([c0, c1, c2, c3, c4, c5, c6, c7, c8, c9, c10, c11, c12, c13, c14, c15, c16].drop 7).take (Try.prog.cellsOf 25)) = xs[2]? := hx 2 _ rfl
  rw [List.getElem?_eq_getElem (by omega)] at hg2
  obtain ⟨y2, hy2⟩ := pf_rd hg2 (by rw [h_pf]; rfl)
  rw [h_pf] at hy2
  simp at e0 e3 e4 e5 e6 hy1 hy2
  obtain ⟨rfl, rfl, rfl, rfl, rfl, rfl⟩ := hy1
  obtain ⟨rfl, rfl, rfl, rfl, rfl, rfl⟩ := hy2
  subst e0 e3 e4 e5 e6
  exact ⟨⟨n0, y1, y2, n3, n4, n5, n6⟩, rfl⟩

theorem mo_in {H : Type} {enc : TypeId × Value → H} {w : World} {r : Reach} {b0 base : Nat} {spare : Nat → Bool} {held : Bool} {v : Value} {d : DataW H} {p : List MemPlace}
    (hv : Value.okWide Try.prog w r b0 27 v) (h : DataW.Trod enc Try.prog w base spare held 27 v d p) : ∃ y : Mo, v = y.val := by
  obtain ⟨cs, rfl, hsz⟩ := okWide_struct Try.underlying27 hv
  obtain ⟨fuel, hf⟩ := h
  have hl : cs.toList.length = 17 := by
    rw [Array.length_toList, hsz]
    kernel_rfl
  obtain ⟨y, hy⟩ := mo_rd hf hl
  refine ⟨y, ?_⟩
  simp only [Value.cells] at hy
  cases cs
  try simp only at hy
  rw [hy]
  rfl

theorem listed_mo {α : Type} (n : Nat) (P : Nat → α → Prop) (h : ∀ i, i < n → ∃ y, P i y) : ∃ ys : List α, ys.length = n ∧ ∀ i (hi : i < ys.length), P i ys[i] := by
  induction n with
  | zero => exact ⟨[], rfl, fun i hi => absurd hi (by simp)⟩
  | succ n ih =>
    obtain ⟨ys, hl, hp⟩ := ih (fun i hi => h i (by omega))
    obtain ⟨y, hy⟩ := h n (by omega)
    refine ⟨ys ++ [y], by simp [hl], fun i hi => ?_⟩
    by_cases hi2 : i < ys.length
    · rw [List.getElem_append_left hi2]
      exact hp i hi2
    · have : i = n := by simp at hi; omega
      subst this
      rw [List.getElem_append_right (by omega)]
      simpa using hy
theorem addr_add_mo (a : Addr) (k l : Nat) : (a.add k).add l = a.add (k + l) := by
  obtain ⟨g, o, s⟩ := a
  by_cases hk : k = 0
  · subst hk; simp [Addr.add]
  · by_cases hl : l = 0
    · subst hl; simp [Addr.add]
    · simp only [Addr.add, hk, hl, if_false, show ¬ (k + l = 0) by omega, Nat.add_assoc]

theorem mos_in {H : Type} {enc : TypeId × Value → H} {w : World} {A : Option Addr} {n c : Nat} {d : DataW H} {p : List MemPlace} (h : DataW.Trod enc Try.prog w 0 (fun _ => true) true 36 (.slice A n c) d p) :
    ∃ rs, FIn Mo.cells w A n c rs := by
  obtain ⟨fuel, h⟩ := h
  simp only [Value.cells] at h
  rcases DataW.trod_slice Try.underlying36 h with ⟨hcs, _⟩ | ⟨a, len, cap, elems, rest, n', _, hcs, _, _, hl, hm, hlen, hel, _, _⟩
  · simp at hcs
    obtain ⟨rfl, rfl, rfl⟩ := hcs
    exact ⟨[], rfl, Nat.le_refl _, Nat.zero_le _, RV.nil_ _ _ _⟩
  · simp at hcs
    obtain ⟨rfl, rfl, rfl⟩ := hcs
    have hc2 : Try.prog.cellsOf 27 = 17 := by kernel_rfl
    have each : ∀ i, i < n → ∃ y : Mo, ∀ j v, y.cells[j]? = some v → w.cell? (a.add (i * 17 + j)) = some v := by
      intro i hi
      have h1 := hel i hi
      rw [List.getElem?_eq_getElem (by omega), hc2, Option.bind_eq_some_iff] at h1
      obtain ⟨cs, h2, h3⟩ := h1
      have hs := World.cells?_some h2
      obtain ⟨y, hy⟩ := mo_rd h3 hs.2.1
      obtain rfl : cs = y.cells := hy
      refine ⟨y, fun j v hv => ?_⟩
      have hj : j < 17 := by
        have := (List.getElem?_eq_some_iff.1 hv).1
        rwa [Mo.cells_length] at this
      have a0 := hs.2.2 j hj
      rw [addr_add_mo] at a0
      rw [a0]
      exact hv
    obtain ⟨ys, hyl, hys⟩ := listed_mo n _ each
    refine ⟨ys, hyl, hl, hm, fun hp => ?_⟩
    rw [fl_length Mo.cells_length] at hp
    obtain ⟨g, o, spot⟩ := a
    have h0 := hys 0 (by omega) 0 _ rfl
    have hspot : spot = none := by simpa [Addr.add] using World.cell?_spot h0
    subst hspot
    refine ⟨g, o, rfl, ?_, fun j u hu => ?_⟩
    · have := World.block_lt_of_cell? w _ h0
      rw [Addr.add_mid g o] at this
      exact this
    · have hj : j < ys.length * 17 := by
        rw [← fl_length Mo.cells_length]
        exact (List.getElem?_eq_some_iff.1 hu).1
      have hi : j / 17 < ys.length := by omega
      have e2 : j / 17 * 17 + j % 17 = j := by omega
      have h3 := fl_get Mo.cells_length ys (j / 17) (j % 17) hi (Nat.mod_lt _ (by omega))
      rw [e2, hu] at h3
      have h4 := hys (j / 17) hi (j % 17) u h3.symm
      rw [Addr.add_mid g o, e2] at h4
      exact h4
end Go.Proofs.Ytdndanbalmoklaa
