/-
  Tables as results: stores, what a function returns. TableNew in the program. TableNew in the model. What the laws with tables as results share.
-/
import Derived.Test.YtmfkpiclpkeemaaGA
import Derived.Test.YtmfkpiclpkeemaaCellsN
import Derived.Test.YtmfkpiclpkeemaaGB
import Derived.Test.YtmfkpiclpkeemaaGE
namespace Go.Proofs.Ytmfkpiclpkeemaa
set_option maxRecDepth 100000
open Go.RowKit

theorem storeTb {ops : Array Oper} {rest : List Oper} {o : Oper} {a : Act} {w : World} {Q : Exit → Act → World → Prop} (hgd : o.guard = none) (x y : Operand) (ho : o.op = .store 40 x y) (g : Nat) {s : Int} {A : Option Addr} {n c : Nat} (hx : a.eval x = .pointer (some ⟨g, 0, none⟩)) (hy : a.eval y = .agg #[.int .i64 s, .slice A n c]) {t : TypeId} {u0 u1 : Value}
    (hg : w.heap[g]? = some (.cells #[u0, u1] t (0, 0))) (h : wpList Try.prog ops Q rest (a.put o.dst undef) (w.setRow g #[.int .i64 s, .slice A n c])) : wpList Try.prog ops Q (o :: rest) a w :=
  wpList_store_row hgd 40 x y ho g _ hx hy t _ hg info_tb rfl (by simp [Value.oneCell']) h
theorem resTb {fn : Func} {p : Tmp} (h : fn.results = #[.cell p 40]) (tmps : Array Value) (w : World) (g : Nat) {t : TypeId} {v0 v1 : Value} (hp : tmps.getD p undef = .pointer (some ⟨g, 0, none⟩)) (hg : w.heap[g]? = some (.cells #[v0, v1] t (0, 0))) :
    (results fn tmps).run Try.prog w = .ok (.agg #[v0, v1]) w :=
  results_cell_row h tmps w g t _ (0, 0) _ hp hg Try.underlying40 rfl info_tb
theorem resTbN {fn : Func} {p u : Tmp} (h : fn.results = #[.cell p 40, .tmp u]) (tmps : Array Value) (w : World) (g : Nat) {v0 v1 : Value} (hp : tmps.getD p undef = .pointer (some ⟨g, 0, none⟩)) (hg : w.heap[g]? = some (.cells #[v0, v1] 40 (0, 0))) :
    (results fn tmps).run Try.prog w = .ok (.tuple #[.agg #[v0, v1], tmps.getD u undef]) w :=
  K.resCellTmp h tmps Try.prog w g _ hp (run_loadVar_row _ _ 40 _ _ (0, 0) _ hg Try.underlying40 rfl info_tb)
theorem setRowBT {w0 w : World} {g : Nat} (hb : Below w0.heap.size w0 w) (hg : w0.heap.size ≤ g) (cs : Array Value) : Below w0.heap.size w0 (w.setRow g cs) :=
  bgrown hb (row := some g) ⟨rfl, rfl, rfl, by simp, fun k _ hk => setRow_other w g k cs (fun e => hk (by rw [e]))⟩ (fun k hk => by cases hk; exact hg)
/-- A table of the call's own. -/
def TOwn (b : Nat) (T : Tb) (w : World) (v : Value) : Prop := ∃ A n c, v = .agg #[.int .i64 T.seed, .slice A n c] ∧ w.ownsRow b 93 16 (.slice A n c) n (fl Ce.cells T.cells)
theorem TOwn.zero (b : Nat) (w : World) : TOwn b Tb.zero w (.agg #[.int .i64 0, .slice none 0 0]) := ⟨none, 0, 0, rfl, rfl, .inl ⟨rfl, rfl⟩⟩
theorem TOwn.base {b b' : Nat} {T : Tb} {w : World} {v : Value} (h : TOwn b T w v) (hb : b' ≤ b) : TOwn b' T w v := by
  obtain ⟨A, n, c, e, o⟩ := h
  exact ⟨A, n, c, e, own_base o hb⟩
theorem TOwn.on {b : Nat} {T : Tb} (w w' : World) (v : Value) (hb : Below w.heap.size w w') (h : TOwn b T w v) : TOwn b T w' v := by
  obtain ⟨A, n, c, e, o⟩ := h
  exact ⟨A, n, c, e, own_below o hb⟩
theorem own_setRow {w : World} {b n g : Nat} {v : Value} {xs : List Value} {e : TypeId} {size : Nat} (h : w.ownsRow b e size v n xs) (cs : Array Value) (hg : g < b) : (w.setRow g cs).ownsRow b e size v n xs :=
  own_grown h (⟨rfl, rfl, rfl, by simp, fun k _ hk => setRow_other w g k cs (fun e => hk (by rw [e]))⟩ : w.grownBy (w.setRow g cs) (some g)) (fun k hk e => by have := (h.lt k hk).1; have := Option.some.inj e; omega)
end Go.Proofs.Ytmfkpiclpkeemaa

namespace Go.Proofs.Ytmfkpiclpkeemaa
set_option maxRecDepth 100000
open Go.RowKit

theorem tabNew_no1 {s n : Int} (h : upTo s 4294967295 = false) : tabNew s n = Tb.zero := by simp [tabNew, h]
theorem tabNew_no2 {s n : Int} (h : sizeOk n.toNat = false) : tabNew s n = Tb.zero := by simp [tabNew, h]
theorem tabNew_yes {s n : Int} (h : upTo s 4294967295 = true) (h2 : sizeOk n.toNat = true) : tabNew s n = ⟨s, List.replicate n.toNat Ce.zero⟩ := by simp [tabNew, h, h2]

set_option maxHeartbeats 1000000 in
theorem sizeOkIZ (n : Int) (b : Bool) (h : sizeOk n.toNat = b) (w : World) : Calls Try.prog 67 #[.int .i64 n] w fun e w' => e = .returned (.bool b) ∧ Below w.heap.size w w' := by
  by_cases h0 : 0 ≤ n
  · obtain ⟨m, rfl⟩ := Int.eq_ofNat_of_zero_le h0
    exact sizeOkIB m b h w
  · have hb : b = false := by
      rw [← h]
      have : n.toNat = 0 := by omega
      rw [this]
      rfl
    subst hb
    have g4 : (n == 4) = false := beq_false_of_ne (by omega)
    have g8 : (n == 8) = false := beq_false_of_ne (by omega)
    have g16 : (n == 16) = false := beq_false_of_ne (by omega)
    have g32 : (n == 32) = false := beq_false_of_ne (by omega)
    have g64 : (n == 64) = false := beq_false_of_ne (by omega)
    clear h
    go_enter Try.func67, Try.ntmps67
    go_wp2
    go_ret
    exact ⟨rfl, by go_grown⟩

set_option maxHeartbeats 2000000 in
theorem tabNewI_0 (s n : Int) (w : World) (h1 : upTo s 4294967295 = false) : Calls Try.prog 23 #[.int .i64 s, .int .i64 n] w fun e w' => ∃ v, e = .returned v ∧ TOwn w.heap.size (tabNew s n) w' v ∧ Below w.heap.size w w' := by
  have r0 := Lib.hid (K.new w (.cells #[.int .i64 0, .slice none 0 0] 40))
  have HB := Lib.hid (Joins.below_alloc1 w (.cells #[.int .i64 0, .slice none 0 0] 40))
  have HR := Lib.hid (tabNew_no1 (n := n) h1)
  have H1 := Lib.hid h1
  clear h1
  go_enter Try.func23, Try.ntmps23
  go_wp2_with fail
  refine Calls.mono (ruleW 0 s 4294967295 false H1.out _) ?_
  rintro e w1 ⟨rfl, b1⟩
  have r1 := Lib.hid (K.below b1 r0.out)
  have B1 := Lib.hid (bthen HB.out b1)
  clear b1 r0
  go_wp2_with (with_reducible refine storeTb rfl _ _ rfl w.heap.size rfl rfl r1.out ?_)
  (try simp only [Exit.inBlock, Exit.then])
  refine bodyPost_ret (v := .agg #[.int .i64 0, .slice none 0 0]) ?_ rfl ⟨_, rfl, by rw [HR.out]; exact TOwn.zero _ _, setRowBT B1.out (Nat.le_refl _) _⟩
  exact resTb Try.results23 _ _ w.heap.size rfl (setRow_heap _ _ _ _ _ _ r1.out)

set_option maxHeartbeats 2000000 in
theorem tabNewI_1 (s n : Int) (w : World) (h1 : upTo s 4294967295 = true) (h2 : sizeOk n.toNat = false) : Calls Try.prog 23 #[.int .i64 s, .int .i64 n] w fun e w' => ∃ v, e = .returned v ∧ TOwn w.heap.size (tabNew s n) w' v ∧ Below w.heap.size w w' := by
  have r0 := Lib.hid (K.new w (.cells #[.int .i64 0, .slice none 0 0] 40))
  have HB := Lib.hid (Joins.below_alloc1 w (.cells #[.int .i64 0, .slice none 0 0] 40))
  have HR := Lib.hid (tabNew_no2 (s := s) h2)
  have H1 := Lib.hid h1
  have H2 := Lib.hid h2
  clear h1 h2
  go_enter Try.func23, Try.ntmps23
  go_wp2_with fail
  refine Calls.mono (ruleW 0 s 4294967295 true H1.out _) ?_
  rintro e w1 ⟨rfl, b1⟩
  have r1 := Lib.hid (K.below b1 r0.out)
  have B1 := Lib.hid (bthen HB.out b1)
  clear b1 r0
  go_wp2_with fail
  refine Calls.mono (sizeOkIZ n false H2.out _) ?_
  rintro e w2 ⟨rfl, b2⟩
  have r2 := Lib.hid (K.below b2 r1.out)
  have B2 := Lib.hid (bthen B1.out b2)
  clear b2 r1
  go_wp2_with (with_reducible refine storeTb rfl _ _ rfl w.heap.size rfl rfl r2.out ?_)
  (try simp only [Exit.inBlock, Exit.then])
  refine bodyPost_ret (v := .agg #[.int .i64 0, .slice none 0 0]) ?_ rfl ⟨_, rfl, by rw [HR.out]; exact TOwn.zero _ _, setRowBT B2.out (Nat.le_refl _) _⟩
  exact resTb Try.results23 _ _ w.heap.size rfl (setRow_heap _ _ _ _ _ _ r2.out)

set_option maxHeartbeats 2000000 in
theorem tabNewI_2 (s n : Int) (w : World) (m : Nat) (hm : n = (m : Int)) (h1 : upTo s 4294967295 = true) (h2 : sizeOk m = true) : Calls Try.prog 23 #[.int .i64 s, .int .i64 n] w fun e w' => ∃ v, e = .returned v ∧ TOwn w.heap.size (tabNew s n) w' v ∧ Below w.heap.size w w' := by
  have r0 := Lib.hid (K.new w (.cells #[.int .i64 0, .slice none 0 0] 40))
  have HB := Lib.hid (Joins.below_alloc1 w (.cells #[.int .i64 0, .slice none 0 0] 40))
  subst hm
  have HR := Lib.hid (tabNew_yes (n := (m : Int)) h1 h2)
  have H1 := Lib.hid h1
  have H2 := Lib.hid (show sizeOk ((m : Int).toNat) = true from h2)
  have hsz := size_pos h2
  obtain ⟨i0, hi0, hz0, hz1, hz2⟩ := info_parts info_ceP
  clear h1 h2
  go_enter Try.func23, Try.ntmps23
  go_wp2_with fail
  refine Calls.mono (ruleW 0 s 4294967295 true H1.out _) ?_
  rintro e w1 ⟨rfl, b1⟩
  have r1 := Lib.hid (K.below b1 r0.out)
  have B1 := Lib.hid (bthen HB.out b1)
  clear b1 r0
  go_wp2_with fail
  refine Calls.mono (sizeOkIZ (m : Int) true H2.out _) ?_
  rintro e w2 ⟨rfl, b2⟩
  have r2 := Lib.hid (K.below b2 r1.out)
  have B2 := Lib.hid (bthen B1.out b2)
  clear b2 r1
  have hsz2 : w.heap.size + 1 ≤ w2.heap.size := K.lt r2.out
  go_wp2_with (first | (at_make; refine wpList_make_full _ rfl _ _ 38 rfl (w.heap.size + 1) 93 i0 (.agg #[.bool false, .int .i64 0, .int .i64 0, .int .i64 0, .int .i64 0, .int .i64 0, .int .i64 0, .int .i64 0, .int .i64 0, .int .i64 0, .int .i64 0, .int .i64 0, .int .i64 0, .int .i64 0, .int .i64 0, .int .i64 0]) 16 Try.underlying38 hi0 hz0 hz1 _ _ _ _  m rfl rfl rfl rfl (by rw [hz2]; omega) (by unfold maxLen; omega) (hsz2) ?_; intro w3 hown hgrow; have r3 := Lib.hid (hgrow.block _ (K.lt r2.out) (by simp) |>.trans r2.out)) | (with_reducible refine storeTb rfl _ _ rfl w.heap.size rfl rfl r3.out ?_))
  have hown0 : w3.ownsRow (w.heap.size + 1) 93 16 (.slice (some ⟨w2.heap.size, 0, none⟩) m m) m (fl Ce.cells (List.replicate m Ce.zero)) := by
    rw [← zeros_flat Ce.cells_length (by omega) Ce.zero #[.bool false, .int .i64 0, .int .i64 0, .int .i64 0, .int .i64 0, .int .i64 0, .int .i64 0, .int .i64 0, .int .i64 0, .int .i64 0, .int .i64 0, .int .i64 0, .int .i64 0, .int .i64 0, .int .i64 0, .int .i64 0] rfl m]
    exact hown
  (try simp only [Exit.inBlock, Exit.then])
  refine bodyPost_ret (v := .agg #[.int .i64 s, .slice (some ⟨w2.heap.size, 0, none⟩) m m]) ?_ rfl ⟨_, rfl, ?_, setRowBT (bgrown B2.out hgrow (fun k hk => by cases hk)) (Nat.le_refl _) _⟩
  · exact resTb Try.results23 _ _ w.heap.size rfl (setRow_heap _ _ _ _ _ _ r3.out)
  · rw [HR.out]
    exact ⟨_, m, m, rfl, own_base (own_setRow hown0 _ (by omega)) (by omega)⟩

end Go.Proofs.Ytmfkpiclpkeemaa

namespace Go.Proofs.Ytmfkpiclpkeemaa
set_option maxRecDepth 100000
open Go.RowKit

theorem usedN_zero (m : Nat) : usedN (List.replicate m Ce.zero) = 0 := by
  rw [usedN, List.countP_eq_zero]
  intro c hc
  rw [List.eq_of_mem_replicate hc]
  decide
theorem ceAt_zero (m i : Nat) : ceAt (List.replicate m Ce.zero) i = Ce.zero := by
  unfold ceAt
  rcases Nat.lt_or_ge i m with h | h
  · simp [h]
  · simp [h]
theorem tabOk_new (s : Int) (m : Nat) : tabOk s (List.replicate m Ce.zero) = (upTo s 4294967295 && sizeOk m) := by
  cases h1 : upTo s 4294967295 with
  | false => rw [tabOk_no1 h1]; rfl
  | true =>
    cases h2 : sizeOk m with
    | false => rw [tabOk_no2 (by rw [List.length_replicate]; exact h2)]; rfl
    | true =>
      refine tabOk_yes h1 (by rw [List.length_replicate]; exact h2) (by rw [usedN_zero]; omega) fun i _ => ?_
      exact cellFine_yes (by rw [ceAt_zero]; decide) (.inl (by rw [ceAt_zero]; rfl))

set_option maxHeartbeats 2000000 in
theorem tabNewS_0a (s n : Int) (w : World) (h1 : ¬ 4 ≤ n) : Calls Try.prog 22 #[.int .i64 s, .int .i64 n] w fun e w' => ∃ v, e = .returned v ∧ TOwn w.heap.size (tabNew s n) w' v ∧ Below w.heap.size w w' := by
  have r0 := Lib.hid (K.new w (.cells #[.int .i64 0, .slice none 0 0] 40))
  have HB := Lib.hid (Joins.below_alloc1 w (.cells #[.int .i64 0, .slice none 0 0] 40))
  have HR := Lib.hid (tabNew_no2 (s := s) (n := n) (by cases h : sizeOk n.toNat with | false => rfl | true => exact absurd (size_pos h) (by omega)))
  go_enter Try.func22, Try.ntmps22
  go_wp2_with (with_reducible refine storeTb rfl _ _ rfl w.heap.size rfl rfl r0.out ?_)
  (try simp only [Exit.inBlock, Exit.then])
  refine bodyPost_ret (v := .agg #[.int .i64 0, .slice none 0 0]) ?_ rfl ⟨_, rfl, by rw [HR.out]; exact TOwn.zero _ _, setRowBT HB.out (Nat.le_refl _) _⟩
  exact resTb Try.results22 _ _ w.heap.size rfl (setRow_heap _ _ _ _ _ _ r0.out)

set_option maxHeartbeats 2000000 in
theorem tabNewS_0b (s n : Int) (w : World) (h0 : 4 ≤ n) (h1 : ¬ n ≤ 64) : Calls Try.prog 22 #[.int .i64 s, .int .i64 n] w fun e w' => ∃ v, e = .returned v ∧ TOwn w.heap.size (tabNew s n) w' v ∧ Below w.heap.size w w' := by
  have r0 := Lib.hid (K.new w (.cells #[.int .i64 0, .slice none 0 0] 40))
  have HB := Lib.hid (Joins.below_alloc1 w (.cells #[.int .i64 0, .slice none 0 0] 40))
  have HR := Lib.hid (tabNew_no2 (s := s) (n := n) (by cases h : sizeOk n.toNat with | false => rfl | true => exact absurd (size_pos h) (by omega)))
  go_enter Try.func22, Try.ntmps22
  go_wp2_with (with_reducible refine storeTb rfl _ _ rfl w.heap.size rfl rfl r0.out ?_)
  (try simp only [Exit.inBlock, Exit.then])
  refine bodyPost_ret (v := .agg #[.int .i64 0, .slice none 0 0]) ?_ rfl ⟨_, rfl, by rw [HR.out]; exact TOwn.zero _ _, setRowBT HB.out (Nat.le_refl _) _⟩
  exact resTb Try.results22 _ _ w.heap.size rfl (setRow_heap _ _ _ _ _ _ r0.out)

set_option maxHeartbeats 2000000 in
theorem tabNewS_1 (s n : Int) (w : World) (m : Nat) (hm : n = (m : Int)) (h0 : 4 ≤ m) (h1 : m ≤ 64) (b : Bool) (hb : tabOk s (List.replicate m Ce.zero) = b) : Calls Try.prog 22 #[.int .i64 s, .int .i64 n] w fun e w' => ∃ v, e = .returned v ∧ TOwn w.heap.size (tabNew s n) w' v ∧ Below w.heap.size w w' := by
  have r0 := Lib.hid (K.new w (.cells #[.int .i64 0, .slice none 0 0] 40))
  have HB := Lib.hid (Joins.below_alloc1 w (.cells #[.int .i64 0, .slice none 0 0] 40))
  subst hm
  have HO := Lib.hid hb
  obtain ⟨i0, hi0, hz0, hz1, hz2⟩ := info_parts info_ceP
  clear hb
  go_enter Try.func22, Try.ntmps22
  have hsz2 : w.heap.size + 1 ≤ (w.alloc (.cells #[.int .i64 0, .slice none 0 0] 40)).heap.size := by simp
  go_wp2_with (at_make; refine wpList_make_full _ rfl _ _ 38 rfl (w.heap.size + 1) 93 i0 (.agg #[.bool false, .int .i64 0, .int .i64 0, .int .i64 0, .int .i64 0, .int .i64 0, .int .i64 0, .int .i64 0, .int .i64 0, .int .i64 0, .int .i64 0, .int .i64 0, .int .i64 0, .int .i64 0, .int .i64 0, .int .i64 0]) 16 Try.underlying38 hi0 hz0 hz1 _ _ _ _  m rfl rfl rfl rfl (by rw [hz2]; omega) (by unfold maxLen; omega) (hsz2) ?_; intro w3 hown hgrow; have r3 := Lib.hid (hgrow.block _ (K.lt r0.out) (by simp) |>.trans r0.out))
  have O3 : Hid (w3.ownsRow (w.heap.size + 1) 93 16 (.slice (some ⟨w.heap.size + 1, 0, none⟩) m m) m (fl Ce.cells (List.replicate m Ce.zero))) := by
    rw [← zeros_flat Ce.cells_length (by omega) Ce.zero #[.bool false, .int .i64 0, .int .i64 0, .int .i64 0, .int .i64 0, .int .i64 0, .int .i64 0, .int .i64 0, .int .i64 0, .int .i64 0, .int .i64 0, .int .i64 0, .int .i64 0, .int .i64 0, .int .i64 0, .int .i64 0] rfl m]
    simp only [World.size_alloc] at hown
    exact Lib.hid hown
  have B3 := Lib.hid (bgrown HB.out hgrow (fun k hk => by cases hk))
  clear hown hgrow
  have x4 := Lib.hid (K.new w3 (.cells #[.int .i64 s, .slice (some ⟨w.heap.size + 1, 0, none⟩) m m] 40))
  have r4 := Lib.hid (K.old r3.out (.cells #[.int .i64 s, .slice (some ⟨w.heap.size + 1, 0, none⟩) m m] 40))
  have O4 := Lib.hid (own_below O3.out (Joins.below_alloc1 w3 (.cells #[.int .i64 s, .slice (some ⟨w.heap.size + 1, 0, none⟩) m m] 40)))
  have B4 := Lib.hid (bthen B3.out (Joins.below_alloc1 w3 (.cells #[.int .i64 s, .slice (some ⟨w.heap.size + 1, 0, none⟩) m m] 40)))
  clear O3 r3
  refine Calls.mono (tabOkSB s (some ⟨w.heap.size + 1, 0, none⟩) m m (List.replicate m Ce.zero) _ (RV.of_own O4.out) (by rw [List.length_replicate]) (by omega) b HO.out) ?_
  rintro e w5 ⟨rfl, b5⟩
  have x5 := Lib.hid (K.below b5 x4.out)
  have r5 := Lib.hid (K.below b5 r4.out)
  have O5 := Lib.hid (own_below O4.out b5)
  have B5 := Lib.hid (bthen B4.out b5)
  clear b5 x4 r4 O4 B4 B3
  cases b with
  | false =>
    have HR : Hid (tabNew s (m : Int) = Tb.zero) := Lib.hid (by
      have h := HO.out
      rw [tabOk_new] at h
      unfold tabNew
      rw [show ((m : Int).toNat) = m from rfl, h]
      rfl)
    go_wp2_with (with_reducible refine storeTb rfl _ _ rfl w.heap.size rfl rfl r5.out ?_)
    (try simp only [Exit.inBlock, Exit.then])
    refine bodyPost_ret (v := .agg #[.int .i64 0, .slice none 0 0]) ?_ rfl ⟨_, rfl, by rw [HR.out]; exact TOwn.zero _ _, setRowBT B5.out (Nat.le_refl _) _⟩
    exact resTb Try.results22 _ _ w.heap.size rfl (setRow_heap _ _ _ _ _ _ r5.out)
  | true =>
    have HR : Hid (tabNew s (m : Int) = ⟨s, List.replicate m Ce.zero⟩) := Lib.hid (by
      have h := HO.out
      rw [tabOk_new] at h
      unfold tabNew
      rw [show ((m : Int).toNat) = m from rfl, h]
      rfl)
    obtain ⟨⟨t0, t1⟩, _⟩ := K.row2 x5.out
    go_wp2_with (with_reducible refine storeTb rfl _ _ rfl w.heap.size rfl rfl r5.out ?_)
    (try simp only [Exit.inBlock, Exit.then])
    refine bodyPost_ret (v := .agg #[.int .i64 s, .slice (some ⟨w.heap.size + 1, 0, none⟩) m m]) ?_ rfl ⟨_, rfl, ?_, setRowBT B5.out (Nat.le_refl _) _⟩
    · exact resTb Try.results22 _ _ w.heap.size rfl (setRow_heap _ _ _ _ _ _ r5.out)
    · rw [HR.out]
      exact ⟨_, m, m, rfl, own_base (own_setRow O5.out _ (by omega)) (by omega)⟩

theorem tabNewS (s n : Int) (w : World) : Calls Try.prog 22 #[.int .i64 s, .int .i64 n] w fun e w' => ∃ v, e = .returned v ∧ TOwn w.heap.size (tabNew s n) w' v ∧ Below w.heap.size w w' := by
  by_cases h0 : 4 ≤ n
  · by_cases h1 : n ≤ 64
    · obtain ⟨m, rfl⟩ := Int.eq_ofNat_of_zero_le (show 0 ≤ n by omega)
      exact tabNewS_1 s _ w m rfl (by omega) (by omega) _ rfl
    · exact tabNewS_0b s n w h0 h1
  · exact tabNewS_0a s n w h0
theorem tabNewI (s n : Int) (w : World) : Calls Try.prog 23 #[.int .i64 s, .int .i64 n] w fun e w' => ∃ v, e = .returned v ∧ TOwn w.heap.size (tabNew s n) w' v ∧ Below w.heap.size w w' := by
  cases h1 : upTo s 4294967295 with
  | false => exact tabNewI_0 s n w h1
  | true =>
    cases h2 : sizeOk n.toNat with
    | false => exact tabNewI_1 s n w h1 h2
    | true =>
      have := size_pos h2
      obtain ⟨m, rfl⟩ := Int.eq_ofNat_of_zero_le (show 0 ≤ n by omega)
      exact tabNewI_2 s _ w m rfl h1 h2
end Go.Proofs.Ytmfkpiclpkeemaa

namespace Go.Proofs.Ytmfkpiclpkeemaa
set_option maxRecDepth 100000
open Go.RowKit

/-- A row of cells is no box. -/
theorem own_neT {w : World} {base n b : Nat} {v : Value} {xs : List Value} {cs : Array Value} {t : TypeId} (h : w.ownsRow base 93 16 v n xs) (hb : w.heap[b]? = some (.cells cs t (0, 0))) (ht : t ≠ 93) : ∀ k, v.ownBlock = some k → b ≠ k := by
  intro k hk e
  subst e
  rcases h.2 with ⟨rfl, _⟩ | ⟨g, cap, cur, rfl, _, hg, _⟩
  · simp [Value.ownBlock] at hk
  · simp [Value.ownBlock] at hk
    subst hk
    rw [hg] at hb
    injection hb with hb
    injection hb with _ h2
    exact ht h2.symm
theorem own_len {w : World} {base n : Nat} {v : Value} {xs : List Ce} (h : w.ownsRow base 93 16 v n (fl Ce.cells xs)) : n = xs.length := by
  have := h.1
  rw [fl_length Ce.cells_length] at this
  omega
end Go.Proofs.Ytmfkpiclpkeemaa
