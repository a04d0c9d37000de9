/-
  An IPv6 packet that came in: what the walk is told of it, out of its reading.
-/
import Derived.Test.YtegpaocoepcemaaSixLib
import Derived.Test.YtegpaocoepcemaaInFour
namespace Go.Proofs.Ytegpaocoepcemaa
set_option maxRecDepth 100000
open Go.RowKit Go.ChangeShapes Go.WideShapes Go.ChangeAt

theorem len16 {α : Type} {l : List α} (h : l.length = 16) : ∃ c0 c1 c2 c3 c4 c5 c6 c7 c8 c9 c10 c11 c12 c13 c14 c15, l = [c0, c1, c2, c3, c4, c5, c6, c7, c8, c9, c10, c11, c12, c13, c14, c15] := by
  match l, h with
  | [c0, c1, c2, c3, c4, c5, c6, c7, c8, c9, c10, c11, c12, c13, c14, c15], _ => exact ⟨c0, c1, c2, c3, c4, c5, c6, c7, c8, c9, c10, c11, c12, c13, c14, c15, rfl⟩
theorem len2 {α : Type} {l : List α} (h : l.length = 2) : ∃ c0 c1, l = [c0, c1] := by
  match l, h with
  | [c0, c1], _ => exact ⟨c0, c1, rfl⟩
theorem listed {α : Type} (n : Nat) (P : Nat → α → Prop) (h : ∀ i, i < n → ∃ y, P i y) : ∃ ys : List α, ys.length = n ∧ ∀ i (hi : i < ys.length), P i ys[i] := by
  induction n with
  | zero => exact ⟨[], rfl, fun i hi => absurd hi (by simp)⟩
  | succ n ih =>
    obtain ⟨ys, hl, hp⟩ := ih (fun i hi => h i (by omega))
    obtain ⟨y, hy⟩ := h n (by omega)
    refine ⟨ys ++ [y], by simp [hl], fun i hi => ?_⟩
    by_cases hi2 : i < ys.length
    · rw [List.getElem_append_left hi2]
      exact hp i hi2
    · have : i = n := by simp at hi; omega
      subst this
      rw [List.getElem_append_right (by omega)]
      simpa using hy

theorem addr_add_add (a : Addr) (k l : Nat) : (a.add k).add l = a.add (k + l) := by
  obtain ⟨g, o, s⟩ := a
  by_cases hk : k = 0
  · subst hk; simp [Addr.add]
  · by_cases hl : l = 0
    · subst hl; simp [Addr.add]
    · simp only [Addr.add, hk, hl, if_false, show ¬ (k + l = 0) by omega, Nat.add_assoc]
theorem each_cell {ys : List Ey} {f : Nat → Option Value} (h : ∀ i (hi : i < ys.length), f (i * 2) = some (.int .i64 ys[i].k) ∧ f (i * 2 + 1) = some (.slice ys[i].A ys[i].bs.length ys[i].c)) (j : Nat) (u : Value) (hu : (xcells ys)[j]? = some u) : f j = some u := by
  have hj : j < ys.length * 2 := by
    rw [← xcells_length]
    exact (List.getElem?_eq_some_iff.1 hu).1
  obtain ⟨i, hi⟩ : ∃ i, j = i * 2 ∨ j = i * 2 + 1 := ⟨j / 2, by omega⟩
  have hk : i < ys.length := by omega
  rcases hi with rfl | rfl
  · rw [(h i hk).1, ← hu, xcells_get0 _ _ hk]
  · rw [(h i hk).2, ← hu, xcells_get1 _ _ hk]

/-- A cell that is read as a slice of bytes is one: any fuel. -/
theorem bytes_cellX {H : Type} {enc : TypeId × Value → H} {w : World} {fuel : Nat} {v : Value} {x : DataW H × List MemPlace} (h : DataW.trod enc Try.prog w 0 (fun _ => true) true fuel 28 [v] = some x) :
    ∃ A n c bs, v = .slice A n c ∧ In w A n c bs := bytes_cellF h

theorem ext_cells {H : Type} {enc : TypeId × Value → H} {w : World} {fuel : Nat} {cs : List Value} {x : DataW H × List MemPlace}
    (h : DataW.trod enc Try.prog w 0 (fun _ => true) true fuel 100 cs = some x) : ∃ y : Ey, cs = y.cells ∧ In w y.A y.bs.length y.c y.bs := by
  have hl : cs.length = 2 := by
    obtain ⟨_, _, _, _, hl, _⟩ := DataW.trod_struct Try.underlying100 h
    rw [hl]
    kernel_rfl
  obtain ⟨c0, c1, rfl⟩ := len2 hl
  obtain ⟨n0, e0⟩ := field_int Try.underlying100 h 0 _ rfl Try.underlying3 (by kernel_rfl)
  obtain ⟨xs, m, _, _, _, hlen, hx⟩ := DataW.trod_struct Try.underlying100 h
  have hlen' : xs.length = 2 := hlen
  have hc1 : Try.prog.cellsOf 28 = 1 := by kernel_rfl
  have hg1 : DataW.trod enc Try.prog w 0 (fun _ => true) true m 28 (([c0, c1].drop 1).take (Try.prog.cellsOf 28)) = xs[1]? := hx 1 _ rfl
  rw [List.getElem?_eq_getElem (by omega), hc1] at hg1
  obtain ⟨A, n, c, bs, e1, hin⟩ := bytes_cellX hg1
  simp at e0
  subst e0 e1
  have := hin.len
  subst this
  exact ⟨⟨n0, bs, A, c⟩, rfl, hin⟩

theorem exts_cell {H : Type} {enc : TypeId × Value → H} {w : World} {fuel : Nat} {v : Value} {x : DataW H × List MemPlace} (h : DataW.trod enc Try.prog w 0 (fun _ => true) true fuel 27 [v] = some x) :
    ∃ A n c ys, v = .slice A n c ∧ XIn w A n c ys := by
  rcases DataW.trod_slice Try.underlying27 h with ⟨hcs, _⟩ | ⟨a, len, cap, elems, rest, n, _, hcs, _, _, hl, hm, hlen, hel, _, _⟩
  · simp at hcs
    subst hcs
    exact ⟨none, 0, 0, [], rfl, rfl, Nat.le_refl _, Nat.zero_le _, RV.nil_ _ _ _, by simp⟩
  · simp at hcs
    subst hcs
    have hc2 : Try.prog.cellsOf 100 = 2 := by kernel_rfl
    have each : ∀ i, i < len → ∃ y : Ey, w.cell? (a.add (i * 2)) = some (.int .i64 y.k) ∧ w.cell? (a.add (i * 2 + 1)) = some (.slice y.A y.bs.length y.c) ∧ In w y.A y.bs.length y.c y.bs := by
      intro i hi
      have h1 := hel i hi
      rw [List.getElem?_eq_getElem (by omega), hc2, Option.bind_eq_some_iff] at h1
      obtain ⟨cs, h2, h3⟩ := h1
      obtain ⟨y, rfl, hy⟩ := ext_cells h3
      have h4 := (World.cells?_some h2).2.2
      have a0 := h4 0 (by omega)
      have a1 := h4 1 (by omega)
      rw [addr_add_add] at a0 a1
      exact ⟨y, by simpa [Ey.cells] using a0, by simpa [Ey.cells] using a1, hy⟩
    obtain ⟨ys, hyl, hys⟩ := listed len _ each
    refine ⟨some a, len, cap, ys, rfl, hyl, hl, hm, fun hp => ?_, fun y hy => ?_⟩
    · rw [xcells_length] at hp
      obtain ⟨g, o, spot⟩ := a
      have h0 := (hys 0 (by omega)).1
      have hspot : spot = none := by simpa [Addr.add] using World.cell?_spot h0
      subst hspot
      refine ⟨g, o, rfl, ?_, fun j u hu => ?_⟩
      · have := World.block_lt_of_cell? w _ h0
        simpa [addr_add] using this
      · refine each_cell (f := fun j => w.cell? ⟨g, o + j, none⟩) (fun i hi => ?_) j u hu
        have hh := hys i hi
        rw [addr_add, addr_add] at hh
        exact ⟨hh.1, hh.2.1⟩
    · obtain ⟨i, hi, rfl⟩ := List.getElem_of_mem hy
      exact (hys i hi).2.2

theorem six_in {H : Type} {enc : TypeId × Value → H} {w : World} {r : Reach} {b0 : Nat} {v : Value} {d : DataW H} {p : List MemPlace}
    (hv : Value.okWide Try.prog w r b0 30 v) (h : DataW.Trod enc Try.prog w 0 (fun _ => true) true 30 v d p) :
    ∃ (y : Sh) (A : Option Addr) (n c : Nat) (ys : List Ey) (D : Option Addr) (m e : Nat) (bs : List UInt8), v = .agg #[.int .i64 y.cls, .int .i64 y.label, .int .i64 y.hops, .int .i64 y.proto, .int .i64 y.src.k, .int .i64 y.src.a, .int .i64 y.src.b, .int .i64 y.src.c, .int .i64 y.src.d, .int .i64 y.dst.k, .int .i64 y.dst.a, .int .i64 y.dst.b, .int .i64 y.dst.c, .int .i64 y.dst.d, .slice A n c, .slice D m e] ∧ XIn w A n c ys ∧ In w D m e bs := by
  obtain ⟨cs, rfl, hsz⟩ := okWide_struct Try.underlying30 hv
  obtain ⟨fuel, hf⟩ := h
  have hl : cs.toList.length = 16 := by
    rw [Array.length_toList, hsz]
    kernel_rfl
  obtain ⟨c0, c1, c2, c3, c4, c5, c6, c7, c8, c9, c10, c11, c12, c13, c14, c15, hcs⟩ := len16 hl
  simp only [Value.cells] at hf
  rw [hcs] at hf
  obtain ⟨n0, e0⟩ := field_int Try.underlying30 hf 0 _ rfl Try.underlying3 (by kernel_rfl)
  obtain ⟨n1, e1⟩ := field_int Try.underlying30 hf 1 _ rfl Try.underlying3 (by kernel_rfl)
  obtain ⟨n2, e2⟩ := field_int Try.underlying30 hf 2 _ rfl Try.underlying3 (by kernel_rfl)
  obtain ⟨n3, e3⟩ := field_int Try.underlying30 hf 3 _ rfl Try.underlying3 (by kernel_rfl)
  obtain ⟨xs, m, _, _, _, hlen, hx⟩ := DataW.trod_struct Try.underlying30 hf
  have hlen' : xs.length = 8 := hlen
  have hc1 : Try.prog.cellsOf 28 = 1 := by kernel_rfl
  have hc2 : Try.prog.cellsOf 27 = 1 := by kernel_rfl
  have hc5 : Try.prog.cellsOf 26 = 5 := by kernel_rfl
  have hg4 : DataW.trod enc Try.prog w 0 (fun _ => true) true m 26 (([c0, c1, c2, c3, c4, c5, c6, c7, c8, c9, c10, c11, c12, c13, c14, c15].drop 4).take (Try.prog.cellsOf 26)) = xs[4]? := hx 4 _ rfl
  have hg5 : DataW.trod enc Try.prog w 0 (fun _ => true) true m 26 (([c0, c1, c2, c3, c4, c5, c6, c7, c8, c9, c10, c11, c12, c13, c14, c15].drop 9).take (Try.prog.cellsOf 26)) = xs[5]? := hx 5 _ rfl
  have hg6 : DataW.trod enc Try.prog w 0 (fun _ => true) true m 27 (([c0, c1, c2, c3, c4, c5, c6, c7, c8, c9, c10, c11, c12, c13, c14, c15].drop 14).take (Try.prog.cellsOf 27)) = xs[6]? := hx 6 _ rfl
  have hg7 : DataW.trod enc Try.prog w 0 (fun _ => true) true m 28 (([c0, c1, c2, c3, c4, c5, c6, c7, c8, c9, c10, c11, c12, c13, c14, c15].drop 15).take (Try.prog.cellsOf 28)) = xs[7]? := hx 7 _ rfl
  rw [List.getElem?_eq_getElem (by omega)] at hg4 hg5 hg6 hg7
  rw [hc1] at hg7
  rw [hc2] at hg6
  obtain ⟨y7, hy7⟩ := addr_cells hg4
  obtain ⟨y8, hy8⟩ := addr_cells hg5
  obtain ⟨A, n, c, ys, e17, hin⟩ := exts_cell hg6
  obtain ⟨D, q, e, bs, e18, hin2⟩ := bytes_cellX hg7
  rw [hc5] at hy7 hy8
  simp at e0 e1 e2 e3 hy7 hy8
  obtain ⟨rfl, rfl, rfl, rfl, rfl⟩ := hy7
  obtain ⟨rfl, rfl, rfl, rfl, rfl⟩ := hy8
  subst e0 e1 e2 e3 e17 e18
  refine ⟨⟨n0, n1, n2, n3, y7, y8⟩, A, n, c, ys, D, q, e, bs, ?_, hin, hin2⟩
  cases cs
  simp only at hcs
  rw [hcs]
end Go.Proofs.Ytegpaocoepcemaa
