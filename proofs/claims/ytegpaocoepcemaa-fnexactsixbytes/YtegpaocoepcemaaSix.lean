/-
  IPv6 packets in memory: whole loads and stores; the laws' own helpers on their extension headers: a size, a copy.
-/
import Derived.Test.YtegpaocoepcemaaSixLib
import Derived.Test.YtegpaocoepcemaaCellsN
import Derived.Test.YtegpaocoepcemaaAddr
import Derived.Test.YtegpaocoepcemaaFour2
import Derived.Laws.Tables
import Derived.Deep.WholeRow
namespace Go.Proofs.Ytegpaocoepcemaa
set_option maxRecDepth 100000
open Go.RowKit

theorem info_six : (Try.prog.info? 36).map (·.size) = some 16 := by kernel_rfl

theorem loadS {ops : Array Oper} {rest : List Oper} {o : Oper} {a : Act} {w : World} {Q : Exit → Act → World → Prop} (hgd : o.guard = none) (x : Operand) (ho : o.op = .load 36 x) (g : Nat) (hx : a.eval x = .pointer (some ⟨g, 0, none⟩)) {t : TypeId} {v0 v1 v2 v3 v4 v5 v6 v7 v8 v9 v10 v11 v12 v13 v14 v15 : Value}
    (hg : w.heap[g]? = some (.cells #[v0, v1, v2, v3, v4, v5, v6, v7, v8, v9, v10, v11, v12, v13, v14, v15] t (0, 0))) (h : wpList Try.prog ops Q rest (a.put o.dst (.agg #[v0, v1, v2, v3, v4, v5, v6, v7, v8, v9, v10, v11, v12, v13, v14, v15])) w) : wpList Try.prog ops Q (o :: rest) a w :=
  wpList_load_row hgd 36 x ho g hx t _ (0, 0) _ hg Try.underlying36 rfl info_six h

theorem storeS {ops : Array Oper} {rest : List Oper} {o : Oper} {a : Act} {w : World} {Q : Exit → Act → World → Prop} (hgd : o.guard = none) (x y : Operand) (ho : o.op = .store 36 x y) (g : Nat) {n0 n1 n2 n3 n4 n5 n6 n7 n8 n9 n10 n11 n12 n13 : Int} {A D : Option Addr} {l c m d : Nat} (hx : a.eval x = .pointer (some ⟨g, 0, none⟩)) (hy : a.eval y = .agg #[.int .i64 n0, .int .i64 n1, .int .i64 n2, .int .i64 n3, .int .i64 n4, .int .i64 n5, .int .i64 n6, .int .i64 n7, .int .i64 n8, .int .i64 n9, .int .i64 n10, .int .i64 n11, .int .i64 n12, .int .i64 n13, .slice A l c, .slice D m d]) {t : TypeId} {u0 u1 u2 u3 u4 u5 u6 u7 u8 u9 u10 u11 u12 u13 u14 u15 : Value}
    (hg : w.heap[g]? = some (.cells #[u0, u1, u2, u3, u4, u5, u6, u7, u8, u9, u10, u11, u12, u13, u14, u15] t (0, 0))) (h : wpList Try.prog ops Q rest (a.put o.dst undef) (w.setRow g #[.int .i64 n0, .int .i64 n1, .int .i64 n2, .int .i64 n3, .int .i64 n4, .int .i64 n5, .int .i64 n6, .int .i64 n7, .int .i64 n8, .int .i64 n9, .int .i64 n10, .int .i64 n11, .int .i64 n12, .int .i64 n13, .slice A l c, .slice D m d])) : wpList Try.prog ops Q (o :: rest) a w :=
  wpList_store_row hgd 36 x y ho g _ hx hy t _ hg info_six rfl (by simp [Value.oneCell']) h

theorem resS {fn : Func} {p : Tmp} (h : fn.results = #[.cell p 36]) (tmps : Array Value) (w : World) (g : Nat) {v0 v1 v2 v3 v4 v5 v6 v7 v8 v9 v10 v11 v12 v13 v14 v15 : Value} {t : TypeId} (hp : tmps.getD p undef = .pointer (some ⟨g, 0, none⟩)) (hg : w.heap[g]? = some (.cells #[v0, v1, v2, v3, v4, v5, v6, v7, v8, v9, v10, v11, v12, v13, v14, v15] t (0, 0))) :
    (results fn tmps).run Try.prog w = .ok (.agg #[v0, v1, v2, v3, v4, v5, v6, v7, v8, v9, v10, v11, v12, v13, v14, v15]) w :=
  results_cell_row h tmps w g t _ (0, 0) _ hp hg Try.underlying36 rfl info_six

theorem info_ext : (Try.prog.info? 63).map (fun i => (i.zero, i.size, i.bytes)) = some (some (.agg #[.int .i64 0, .slice none 0 0]), 2, 32) := by kernel_rfl

set_option maxHeartbeats 400000 in
theorem szExt_yes (y : Ey) (l : Int) (w : World) (h : (y.bs.length : Int) ≤ l) (hl : l ≤ 1048576) :
    Calls Try.prog 81 #[.agg #[.int .i64 y.k, .slice y.A y.bs.length y.c], .int .i64 l] w fun e w' => e = .returned (.int .i64 (l - y.bs.length)) ∧ Below w.heap.size w w' := by
  go_enter Try.func81, Try.ntmps81
  go_wp2_with fail
  refine (szF_yes _ _ _ l _ (by omega) hl).mono ?_
  rintro e w' ⟨rfl, rfl⟩
  go_wp2
  go_ret
  exact ⟨rfl, by go_grown⟩

set_option maxHeartbeats 400000 in
theorem szExt_no (y : Ey) (l : Int) (w : World) (h : l < (y.bs.length : Int)) (h0 : 0 ≤ l) (hn : y.bs.length ≤ maxLen) :
    Calls Try.prog 81 #[.agg #[.int .i64 y.k, .slice y.A y.bs.length y.c], .int .i64 l] w fun e w' => e = .returned (.int .i64 (-1)) ∧ Below w.heap.size w w' := by
  go_enter Try.func81, Try.ntmps81
  go_wp2_with fail
  refine (szF_no _ _ _ l _ h h0 hn).mono ?_
  rintro e w' ⟨rfl, rfl⟩
  go_wp2
  go_ret
  exact ⟨rfl, by go_grown⟩

set_option maxHeartbeats 1000000 in
theorem szExtS_C (A : Option Addr) (n c : Nat) (ys : List Ey) (w : World) (h : XIn w A n c ys) :
    Calls Try.prog 42 #[.slice A n c, .int .i64 1048576] w fun e w' => ∃ r : Int, e = .returned (.int .i64 r) ∧ (r < 0 ∨ (n : Int) + bodies ys + r = 1048576) ∧ Below w.heap.size w w' := by
  have hl := Lib.hid h.len
  have hm := Lib.hid (Nat.le_trans h.cap h.big)
  have HB := Lib.hid h.body
  have HX := Lib.hid h.xr
  clear h
  by_cases hn : n ≤ 1048576
  · go_enter Try.func42, Try.ntmps42
    go_wp2
    go_loopw [1, 5] (fun l i wr => ∃ k : Nat, k ≤ n ∧ i = .int .i64 k ∧ (∃ z : Int, l = .int .i64 z ∧ 0 ≤ z ∧ (n : Int) + bodies (ys.take k) + z = 1048576) ∧ Below w.heap.size w wr) (fun l i _ => n - (intOf i).toNat)
    case atStart => exact ⟨0, Nat.zero_le _, rfl, ⟨_, rfl, by omega, by simp [bodies]; omega⟩, by go_grown⟩
    case round =>
      obtain ⟨k, hk, rfl, ⟨z, rfl, hz, hs⟩, hb⟩ := hrel
      by_cases hlt : k < n
      · have hk2 : k < ys.length := by rw [hl.out]; exact hlt
        obtain ⟨g, o, rfl, hg, hc0, hc1⟩ := HX.out.at_ hk2
        have c0 := (hb.cell (p := ⟨g, o + k * 2, none⟩) hg).trans hc0
        have c1 := (hb.cell (p := ⟨g, o + k * 2 + 1, none⟩) hg).trans hc1
        have hi := HB.out ys[k] (List.getElem_mem hk2)
        have hlen := Nat.le_trans hi.cap hi.big
        have ht := Lib.hid (bodies_take ys k hk2)
        clear hc0 hc1 hi
        generalize ys[k] = y at *
        have hs' := Lib.hid hs
        clear hs
        by_cases hy : (y.bs.length : Int) ≤ z
        · go_wp2_with fail
          refine (szExt_yes y z _ hy (by have := hs'.out; omega)).mono ?_
          rintro e w1 ⟨rfl, b1⟩
          go_wp2
          go_roundw
          case rel => exact ⟨k + 1, by omega, by go_num, ⟨_, rfl, by omega, by have := ht.out; have := hs'.out; omega⟩, bthen hb b1⟩
          case measure => simp [intOf]; omega
        · go_wp2_with fail
          refine (szExt_no y z _ (by omega) hz hlen).mono ?_
          rintro e w1 ⟨rfl, b1⟩
          go_wp2
          go_ret
          exact ⟨_, rfl, .inl (by omega), bthen hb b1⟩
      · obtain rfl : k = n := by omega
        go_wp2
        go_ret
        refine ⟨_, rfl, .inr ?_, hb⟩
        rw [List.take_of_length_le (by rw [hl.out]; exact Nat.le_refl _)] at hs
        exact hs
  · have hm2 := hm.out
    unfold maxLen at hm2
    go_enter Try.func42, Try.ntmps42
    go_wp2
    go_ret
    exact ⟨_, rfl, .inl (by omega), by go_grown⟩
end Go.Proofs.Ytegpaocoepcemaa
