/-
  Rows of rules in memory: a whole rule loaded from a place of a row, a whole rule stored into one; the laws' own helpers on lists of rules.
-/
import Derived.Test.YtdndanbalmoklaaRuList
import Derived.Test.YtdndanbalmoklaaRule
import Derived.Test.YtdndanbalmoklaaRuleTo
import Derived.Test.YtdndanbalmoklaaRuleEq
import Derived.Laws.MakeOwn
import Derived.Laws.OwnMore
import Derived.Lib.BufferOwn
namespace Go.Proofs.Ytdndanbalmoklaa
set_option maxRecDepth 100000
open Go.RowKit

def setL : List Value → Nat → List Value → List Value
  | xs, _, [] => xs
  | xs, j, v :: vs => setL (xs.set j v) (j + 1) vs
theorem setL_mid (vs : List Value) : ∀ (a b c : List Value), b.length = vs.length → setL (a ++ b ++ c) a.length vs = a ++ vs ++ c := by
  induction vs with
  | nil =>
    intro a b c hb
    simp at hb
    subst hb
    simp [setL]
  | cons v vs ih =>
    intro a b c hb
    cases b with
    | nil => simp at hb
    | cons x b =>
      simp at hb
      rw [setL, List.append_assoc, List.cons_append, set_mid a x v (b ++ c) a.length rfl]
      have := ih (a ++ [v]) b c hb
      simpa using this
theorem own_setCells {base g cap n size : Nat} {e : TypeId} (vs : List Value) : ∀ (w : World) (j : Nat) (xs : List Value), w.ownsRow base e size (.slice (some ⟨g, 0, none⟩) n cap) n xs → (w.setCells g j vs).ownsRow base e size (.slice (some ⟨g, 0, none⟩) n cap) n (setL xs j vs) := by
  induction vs with
  | nil => intro w j xs h; exact h
  | cons v vs ih => intro w j xs h; exact ih _ _ _ (h.stored j v).1
theorem grown_setCells (g : Nat) (vs : List Value) : ∀ (w : World) (j : Nat), w.grownBy (w.setCells g j vs) (some g) := by
  induction vs with
  | nil => intro w j; exact ⟨rfl, rfl, rfl, Nat.le_refl _, fun _ _ _ => rfl⟩
  | cons v vs ih =>
    intro w j
    exact grownBy_trans (⟨rfl, rfl, rfl, by simp, fun k _ hk => heap_setCell_other w ⟨g, j, none⟩ k v (fun e => hk (by simp [e]))⟩ : w.grownBy (w.setCell ⟨g, j, none⟩ v) (some g)) (ih _ _)
theorem there_own {w : World} {base g cap n size : Nat} {e : TypeId} {xs : List Value} (h : w.ownsRow base e size (.slice (some ⟨g, 0, none⟩) n cap) n xs) (o k : Nat) (hk : o + k ≤ n * size) : w.there g o k := by
  intro j hj
  refine ⟨?_, h.frozenAt _⟩
  rw [h.cellAt (o + j) (by omega), List.getElem?_eq_getElem (by rw [h.1]; omega)]
  rfl
theorem set_rule (ps qs : List Ru) (z r : Ru) (k : Nat) (hk : ps.length = k) : setL (rcells (ps ++ z :: qs)) (k * 21) r.cells = rcells (ps ++ r :: qs) := by
  have h := setL_mid r.cells (rcells ps) z.cells (rcells qs) rfl
  rw [rcells_length, hk] at h
  rw [rcells_append, rcells_append, rcells_cons, rcells_cons, ← List.append_assoc, ← List.append_assoc]
  exact h
theorem zero_cell (m : Nat) (h : m < 21) : (Ru.zero.cells)[m]? = some (.int .i64 0) :=
  match m, h with
  | 0, _ => rfl
  | 1, _ => rfl
  | 2, _ => rfl
  | 3, _ => rfl
  | 4, _ => rfl
  | 5, _ => rfl
  | 6, _ => rfl
  | 7, _ => rfl
  | 8, _ => rfl
  | 9, _ => rfl
  | 10, _ => rfl
  | 11, _ => rfl
  | 12, _ => rfl
  | 13, _ => rfl
  | 14, _ => rfl
  | 15, _ => rfl
  | 16, _ => rfl
  | 17, _ => rfl
  | 18, _ => rfl
  | 19, _ => rfl
  | 20, _ => rfl
  | m + 21, h => absurd h (by omega)
theorem zero_made (m : Nat) (h : m < 21) : (#[.int .i64 Ru.zero.prio, .int .i64 Ru.zero.src.base.k, .int .i64 Ru.zero.src.base.a, .int .i64 Ru.zero.src.base.b, .int .i64 Ru.zero.src.base.c, .int .i64 Ru.zero.src.base.d, .int .i64 Ru.zero.src.len, .int .i64 Ru.zero.dst.base.k, .int .i64 Ru.zero.dst.base.a, .int .i64 Ru.zero.dst.base.b, .int .i64 Ru.zero.dst.base.c, .int .i64 Ru.zero.dst.base.d, .int .i64 Ru.zero.dst.len, .int .i64 Ru.zero.proto, .int .i64 Ru.zero.slo, .int .i64 Ru.zero.shi, .int .i64 Ru.zero.dlo, .int .i64 Ru.zero.dhi, .int .i64 Ru.zero.tenant, .int .i64 Ru.zero.weight, .int .i64 Ru.zero.chain] : Array Value)[m]! = .int .i64 0 :=
  match m, h with
  | 0, _ => rfl
  | 1, _ => rfl
  | 2, _ => rfl
  | 3, _ => rfl
  | 4, _ => rfl
  | 5, _ => rfl
  | 6, _ => rfl
  | 7, _ => rfl
  | 8, _ => rfl
  | 9, _ => rfl
  | 10, _ => rfl
  | 11, _ => rfl
  | 12, _ => rfl
  | 13, _ => rfl
  | 14, _ => rfl
  | 15, _ => rfl
  | 16, _ => rfl
  | 17, _ => rfl
  | 18, _ => rfl
  | 19, _ => rfl
  | 20, _ => rfl
  | m + 21, h => absurd h (by omega)
theorem rcells_zeros (n : Nat) : (madeCells (Value.agg #[.int .i64 Ru.zero.prio, .int .i64 Ru.zero.src.base.k, .int .i64 Ru.zero.src.base.a, .int .i64 Ru.zero.src.base.b, .int .i64 Ru.zero.src.base.c, .int .i64 Ru.zero.src.base.d, .int .i64 Ru.zero.src.len, .int .i64 Ru.zero.dst.base.k, .int .i64 Ru.zero.dst.base.a, .int .i64 Ru.zero.dst.base.b, .int .i64 Ru.zero.dst.base.c, .int .i64 Ru.zero.dst.base.d, .int .i64 Ru.zero.dst.len, .int .i64 Ru.zero.proto, .int .i64 Ru.zero.slo, .int .i64 Ru.zero.shi, .int .i64 Ru.zero.dlo, .int .i64 Ru.zero.dhi, .int .i64 Ru.zero.tenant, .int .i64 Ru.zero.weight, .int .i64 Ru.zero.chain]).cells (n * 21)).toList = rcells (List.replicate n Ru.zero) := by
  apply List.ext_getElem?
  intro i
  simp only [madeCells, Value.cells, Array.toList_map, Array.toList_range, List.getElem?_map]
  by_cases h : i < n * 21
  · rw [List.getElem?_range h]
    have h1 : i / 21 < (List.replicate n Ru.zero).length := by simp; omega
    have e2 : i = (i / 21) * 21 + i % 21 := by omega
    have h3 : i % 21 < 21 := Nat.mod_lt _ (by omega)
    have h4 := rcells_get (List.replicate n Ru.zero) (i / 21) (i % 21) h1 h3
    rw [← e2] at h4
    rw [h4]
    simp only [List.getElem_replicate]
    rw [zero_cell _ h3]
    show some ((#[.int .i64 Ru.zero.prio, .int .i64 Ru.zero.src.base.k, .int .i64 Ru.zero.src.base.a, .int .i64 Ru.zero.src.base.b, .int .i64 Ru.zero.src.base.c, .int .i64 Ru.zero.src.base.d, .int .i64 Ru.zero.src.len, .int .i64 Ru.zero.dst.base.k, .int .i64 Ru.zero.dst.base.a, .int .i64 Ru.zero.dst.base.b, .int .i64 Ru.zero.dst.base.c, .int .i64 Ru.zero.dst.base.d, .int .i64 Ru.zero.dst.len, .int .i64 Ru.zero.proto, .int .i64 Ru.zero.slo, .int .i64 Ru.zero.shi, .int .i64 Ru.zero.dlo, .int .i64 Ru.zero.dhi, .int .i64 Ru.zero.tenant, .int .i64 Ru.zero.weight, .int .i64 Ru.zero.chain] : Array Value)[i % 21]!) = _
    rw [zero_made _ h3]
  · rw [List.getElem?_eq_none (show (List.range (n * 21)).length ≤ i by simp; omega), List.getElem?_eq_none (show (rcells (List.replicate n Ru.zero)).length ≤ i by rw [rcells_length]; simp; omega)]
    rfl

theorem loadAtR {ops : Array Oper} {rest : List Oper} {o : Oper} {a : Act} {w : World} {Q : Exit → Act → World → Prop} (hgd : o.guard = none) (x : Operand) (ho : o.op = .load 53 x) (g off : Nat) (hx : a.eval x = .pointer (some ⟨g, off, none⟩)) (r : Ru)
    (hc : w.rangeAt g off r.cells) (h : wpList Try.prog ops Q rest (a.put o.dst (.agg #[.int .i64 r.prio, .int .i64 r.src.base.k, .int .i64 r.src.base.a, .int .i64 r.src.base.b, .int .i64 r.src.base.c, .int .i64 r.src.base.d, .int .i64 r.src.len, .int .i64 r.dst.base.k, .int .i64 r.dst.base.a, .int .i64 r.dst.base.b, .int .i64 r.dst.base.c, .int .i64 r.dst.base.d, .int .i64 r.dst.len, .int .i64 r.proto, .int .i64 r.slo, .int .i64 r.shi, .int .i64 r.dlo, .int .i64 r.dhi, .int .i64 r.tenant, .int .i64 r.weight, .int .i64 r.chain])) w) : wpList Try.prog ops Q (o :: rest) a w :=
  wpList_load_mid hgd 53 x ho g off hx r.cells _ hc Try.underlying53 rfl info_rule h
theorem loadAtRL {ops : Array Oper} {rest : List Oper} {o : Oper} {a : Act} {w : World} {Q : Exit → Act → World → Prop} (hgd : o.guard = none) (x : Operand) (ho : o.op = .load 83 x) (g off : Nat) (hx : a.eval x = .pointer (some ⟨g, off, none⟩)) (r : Ru)
    (hc : w.rangeAt g off r.cells) (h : wpList Try.prog ops Q rest (a.put o.dst (.agg #[.int .i64 r.prio, .int .i64 r.src.base.k, .int .i64 r.src.base.a, .int .i64 r.src.base.b, .int .i64 r.src.base.c, .int .i64 r.src.base.d, .int .i64 r.src.len, .int .i64 r.dst.base.k, .int .i64 r.dst.base.a, .int .i64 r.dst.base.b, .int .i64 r.dst.base.c, .int .i64 r.dst.base.d, .int .i64 r.dst.len, .int .i64 r.proto, .int .i64 r.slo, .int .i64 r.shi, .int .i64 r.dlo, .int .i64 r.dhi, .int .i64 r.tenant, .int .i64 r.weight, .int .i64 r.chain])) w) : wpList Try.prog ops Q (o :: rest) a w :=
  wpList_load_mid hgd 83 x ho g off hx r.cells _ hc Try.underlying83 rfl info_lrule h
theorem storeAtR {ops : Array Oper} {rest : List Oper} {o : Oper} {a : Act} {w : World} {Q : Exit → Act → World → Prop} (hgd : o.guard = none) (x y : Operand) (ho : o.op = .store 53 x y) (g off : Nat) (r : Ru) (hx : a.eval x = .pointer (some ⟨g, off, none⟩)) (hy : a.eval y = .agg #[.int .i64 r.prio, .int .i64 r.src.base.k, .int .i64 r.src.base.a, .int .i64 r.src.base.b, .int .i64 r.src.base.c, .int .i64 r.src.base.d, .int .i64 r.src.len, .int .i64 r.dst.base.k, .int .i64 r.dst.base.a, .int .i64 r.dst.base.b, .int .i64 r.dst.base.c, .int .i64 r.dst.base.d, .int .i64 r.dst.len, .int .i64 r.proto, .int .i64 r.slo, .int .i64 r.shi, .int .i64 r.dlo, .int .i64 r.dhi, .int .i64 r.tenant, .int .i64 r.weight, .int .i64 r.chain])
    (ht : w.there g off 21) (h : wpList Try.prog ops Q rest (a.put o.dst undef) (w.setCells g off r.cells)) : wpList Try.prog ops Q (o :: rest) a w :=
  wpList_store_mid hgd 53 x y ho g off #[.int .i64 r.prio, .int .i64 r.src.base.k, .int .i64 r.src.base.a, .int .i64 r.src.base.b, .int .i64 r.src.base.c, .int .i64 r.src.base.d, .int .i64 r.src.len, .int .i64 r.dst.base.k, .int .i64 r.dst.base.a, .int .i64 r.dst.base.b, .int .i64 r.dst.base.c, .int .i64 r.dst.base.d, .int .i64 r.dst.len, .int .i64 r.proto, .int .i64 r.slo, .int .i64 r.shi, .int .i64 r.dlo, .int .i64 r.dhi, .int .i64 r.tenant, .int .i64 r.weight, .int .i64 r.chain] hx hy ht info_rule (by simp [Value.oneCell']) h

set_option maxHeartbeats 400000 in
theorem szRuleS_C (A : Option Addr) (n c : Nat) (l : Int) (w : World) (h0 : 0 ≤ l) (hl : l ≤ 1048576) (hn : n ≤ maxLen) : Calls Try.prog 50 #[.slice A n c, .int .i64 l] w fun e w' => ∃ r : Int, e = .returned (.int .i64 r) ∧ (r < 0 ∨ (0 ≤ r ∧ r = l - n)) ∧ w = w' := by
  unfold maxLen at hn
  by_cases h : l < n
  · go_enter Try.func50, Try.ntmps50
    have e : IntKind.i64.wrap (l - n) = l - n := by rw [IntKind.wrap_i64]; omega
    go_wp2
    all_goals (go_ret; first | exact ⟨_, rfl, by omega, rfl⟩ | exact ⟨_, rfl, .inl (by omega), rfl⟩)
  · go_enter Try.func50, Try.ntmps50
    have e : IntKind.i64.wrap (l - n) = l - n := by rw [IntKind.wrap_i64]; omega
    go_wp2
    all_goals (go_ret; exact ⟨_, rfl, by omega, rfl⟩)

theorem info_ruleP : (Try.prog.info? 53).map (fun i => (i.zero, i.size, i.bytes)) = some (some (.agg #[.int .i64 Ru.zero.prio, .int .i64 Ru.zero.src.base.k, .int .i64 Ru.zero.src.base.a, .int .i64 Ru.zero.src.base.b, .int .i64 Ru.zero.src.base.c, .int .i64 Ru.zero.src.base.d, .int .i64 Ru.zero.src.len, .int .i64 Ru.zero.dst.base.k, .int .i64 Ru.zero.dst.base.a, .int .i64 Ru.zero.dst.base.b, .int .i64 Ru.zero.dst.base.c, .int .i64 Ru.zero.dst.base.d, .int .i64 Ru.zero.dst.len, .int .i64 Ru.zero.proto, .int .i64 Ru.zero.slo, .int .i64 Ru.zero.shi, .int .i64 Ru.zero.dlo, .int .i64 Ru.zero.dhi, .int .i64 Ru.zero.tenant, .int .i64 Ru.zero.weight, .int .i64 Ru.zero.chain]), 21, 168) := by kernel_rfl

set_option maxHeartbeats 1000000 in
theorem toRuleS_C (A : Option Addr) (n c : Nat) (rs : List Ru) (w : World) (hx : RV w w.heap.size A (rcells rs)) (hl : rs.length = n) (hn : n ≤ 1048576) :
    Calls Try.prog 51 #[.slice A n c] w fun e w' => ∃ g, e = .returned (.slice (some ⟨g, 0, none⟩) n n) ∧ w'.ownsRow w.heap.size 53 21 (.slice (some ⟨g, 0, none⟩) n n) n (rcells rs) ∧ Below w.heap.size w w' := by
  obtain ⟨i0, hi0, hz0, hz1, hz2⟩ := info_parts info_ruleP
  have HX := Lib.hid hx
  have HL := Lib.hid hl
  clear hx hl
  go_enter Try.func51, Try.ntmps51
  go_wp2_with (at_make; refine wpList_make_full _ rfl _ _ 61 rfl w.heap.size 53 i0 (.agg #[.int .i64 Ru.zero.prio, .int .i64 Ru.zero.src.base.k, .int .i64 Ru.zero.src.base.a, .int .i64 Ru.zero.src.base.b, .int .i64 Ru.zero.src.base.c, .int .i64 Ru.zero.src.base.d, .int .i64 Ru.zero.src.len, .int .i64 Ru.zero.dst.base.k, .int .i64 Ru.zero.dst.base.a, .int .i64 Ru.zero.dst.base.b, .int .i64 Ru.zero.dst.base.c, .int .i64 Ru.zero.dst.base.d, .int .i64 Ru.zero.dst.len, .int .i64 Ru.zero.proto, .int .i64 Ru.zero.slo, .int .i64 Ru.zero.shi, .int .i64 Ru.zero.dlo, .int .i64 Ru.zero.dhi, .int .i64 Ru.zero.tenant, .int .i64 Ru.zero.weight, .int .i64 Ru.zero.chain]) 21 Try.underlying61 hi0 hz0 hz1 _ _ _ _ n rfl rfl rfl rfl (by rw [hz2]; omega) (by unfold maxLen; omega) (Nat.le_refl _) ?_; intro w1 hown hgrow)
  have hown0 : Hid (w1.ownsRow w.heap.size 53 21 (.slice (some ⟨w.heap.size, 0, none⟩) n n) n (rcells (rs.take 0 ++ List.replicate (n - 0) Ru.zero))) := by
    rw [List.take_zero, List.nil_append, Nat.sub_zero, ← rcells_zeros n]
    exact Lib.hid hown
  have hb1 : Hid (Below w.heap.size w w1) := Lib.hid ((Below.refl _ _).grown hgrow (Nat.le_refl _) (by simp))
  clear hown hgrow
  go_loopw [4] (fun i wr => ∃ (k : Nat), k ≤ n ∧ i = .int .i64 k ∧ Hid (wr.ownsRow w.heap.size 53 21 (.slice (some ⟨w.heap.size, 0, none⟩) n n) n (rcells (rs.take k ++ List.replicate (n - k) Ru.zero))) ∧ Hid (Below w.heap.size w wr)) (fun i _ => n - (intOf i).toNat)
  case atStart => exact ⟨0, Nat.zero_le _, rfl, hown0, hb1⟩
  case round =>
    obtain ⟨k, hk, rfl, hown, hb⟩ := hrel
    clear hown0 hb1
    by_cases hlt : k < n
    · have hk2 : k < rs.length := by rw [HL.out]; exact hlt
      obtain ⟨g, o, rfl, hg, hc0⟩ := HX.out.rule hk2
      have hc := Lib.hid (show wr.rangeAt g (o + k * 21) rs[k].cells from fun j v hv => (hb.out.cell (p := ⟨g, o + k * 21 + j, none⟩) hg).trans (hc0 j v hv))
      have hT := Lib.hid (show rs.take (k + 1) = rs.take k ++ [rs[k]] from take_snoc rs k hk2)
      have hTl := Lib.hid (show (rs.take k).length = k by simp; omega)
      clear hc0
      generalize rs[k] = y at *
      have hG := Lib.hid hg
      clear hg
      go_wp2_with (with_reducible refine loadAtRL rfl _ rfl g (o + k * 21) rfl y hc.out ?_)
      refine (toRuleC y _).mono ?_
      rintro e w2 ⟨rfl, b2⟩
      have R0 := own_below hown.out b2
      have HT := Lib.hid (there_own R0 (k * 21) 21 (by omega))
      have R1 := own_setCells y.cells _ (k * 21) _ R0
      rw [show n - k = (n - (k + 1)) + 1 by omega, List.replicate_succ, set_rule _ _ _ y k hTl.out] at R1
      have R2 := Lib.hid R1
      have B2 := Lib.hid (bgrown (bthen hb.out b2) (grown_setCells w.heap.size y.cells w2 (k * 21)) (fun j hj => by cases hj; exact Nat.le_refl _))
      clear R0 R1 b2
      go_wp2_with (with_reducible refine storeAtR rfl _ _ rfl w.heap.size (k * 21) y rfl rfl HT.out ?_)
      go_roundw
      case rel =>
        refine ⟨k + 1, by omega, by go_num, Lib.hid ?_, B2⟩
        rw [hT.out, List.append_assoc]
        exact R2.out
      case measure => simp [intOf]; omega
    · obtain rfl : k = n := by omega
      go_wp2
      go_ret
      have ho := hown.out
      rw [List.take_of_length_le (by rw [HL.out]; exact Nat.le_refl _), Nat.sub_self, List.replicate_zero, List.append_nil] at ho
      exact ⟨_, rfl, ho, hb.out⟩
end Go.Proofs.Ytdndanbalmoklaa
