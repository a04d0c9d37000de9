/-
  Arrays of sixteen bytes, compared as values.
-/
import Derived.Test.YtdndanbalmoklaaPacked
import Derived.DeepKeys
namespace Go.Proofs.Ytdndanbalmoklaa
set_option maxRecDepth 100000
open Go.RowKit

theorem mapM_some' {α β : Type} (l : List α) (f : α → Option β) (g : α → β) (h : ∀ a ∈ l, f a = some (g a)) : l.mapM f = some (l.map g) := by
  induction l with
  | nil => rfl
  | cons a l ih =>
    rw [List.mapM_cons, h a (by simp), ih (fun b hb => h b (by simp [hb]))]
    rfl
theorem flat_one {α β : Type} (l : List α) (g : α → β) : (l.map fun i => [g i]).flatten = l.map g := by
  induction l with
  | nil => rfl
  | cons a l ih => simp [ih]
def lits16 (a : List UInt8) : List Lit := (List.range 16).map fun i => Lit.int .u8 ((a.getD i 0).toNat : Int)
theorem lits16_eq (a b : List UInt8) (ha : a.length = 16) (hb : b.length = 16) : lits16 a = lits16 b ↔ a = b := by
  constructor
  · intro h
    unfold lits16 at h
    rw [List.map_inj_left] at h
    apply List.ext_getElem (by omega)
    intro i h1 h2
    have := h i (by simp; omega)
    simp only [Lit.int.injEq, true_and, Int.natCast_inj, UInt8.toNat_inj] at this
    simpa [List.getD, h1, h2] using this
  · rintro rfl
    rfl
theorem byte_lit (b : UInt8) : Try.prog.keyLits 2 5 [.int .u8 (b.toNat : Int)] = some [.int .u8 (b.toNat : Int)] := by
  have hb := UInt8.toNat_lt b
  unfold Program.keyLits
  rw [Try.underlying5]
  simp [Lit.wf, IntKind.min, IntKind.max, IntKind.signed, IntKind.bits]
  omega
theorem arr_lits (a : List UInt8) (ha : a.length = 16) : Try.prog.keyLits 3 152 (Value.agg (cellsOf a).toArray).cells.toList = some (lits16 a) := by
  have e1 : Try.prog.cellsOf 5 = 1 := by kernel_rfl
  have e2 : Try.prog.cellsOf 152 = 16 := by kernel_rfl
  unfold Program.keyLits
  rw [Try.underlying152]
  simp only [Value.cells, e1, e2]
  rw [if_pos (by simp [cellsOf, ha]), mapM_some' _ _ (fun i => [Lit.int .u8 ((a.getD i 0).toNat : Int)])]
  · rw [Option.map_some, flat_one]
    rfl
  · intro i hi
    have hi : i < 16 := by simpa using hi
    have hc : ((cellsOf a).drop (i * 1)).take 1 = [.int .u8 ((a.getD i 0).toNat : Int)] := by
      rw [Nat.mul_one, List.drop_eq_getElem_cons (by rw [cellsOf_length]; omega)]
      simp [cellsOf, List.getD, ha, hi]
    rw [hc]
    exact byte_lit _
theorem eq_arr (a b : List UInt8) (ha : a.length = 16) (hb : b.length = 16) (w : World) :
    (Op.equalIn 10000 152 (.agg (cellsOf a).toArray) (.agg (cellsOf b).toArray)).run Try.prog w = .ok (decide (a = b)) w := by
  obtain ⟨r, hr, hiff⟩ := run_equalIn_deep (P := Try.prog) 9998 2 152 (by kernel_rfl) w 3 3 (.agg (cellsOf a).toArray) (.agg (cellsOf b).toArray) (lits16 a) (lits16 b)
    (by simp only [Value.formed, Try.underlying152]; rw [cells_size, ha]; kernel_rfl) (by simp only [Value.formed, Try.underlying152]; rw [cells_size, hb]; kernel_rfl) (arr_lits a ha) (arr_lits b hb)
  rw [lits16_eq a b ha hb] at hiff
  have e : r = decide (a = b) := by
    by_cases h : a = b
    · rw [hiff.2 h]; simp [h]
    · have : r = false := by
        cases hrr : r
        · rfl
        · exact absurd (hiff.1 hrr) h
      rw [this]; simp [h]
  rw [← e]
  exact hr
end Go.Proofs.Ytdndanbalmoklaa
