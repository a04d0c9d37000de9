/-
  Steps of regions over a boxed flow key: fields, loads, bytes, calls. slices.Concat of slices of bytes: a row of its own that holds one after the other. The bytes of a flow key in the program. The bytes of a flow key in the model. HashOf in the model. HashOf in the program. Steps of regions over boxed tables: fields, loads, lengths, calls. When a table is valid, as the model tests it. Nothing here speaks of the program. The program's small functions on tables: sizeOk, usedIn, roomOf, cellOk, and where a probe ends. Where a probe ends, in the program. The model's small functions on tables: how many cells are used, where a key is, its home. Steps of regions: picks, comparisons.
-/
import Derived.Test.YtmfkpiclpkeemaaTabLib
import Derived.Test.YtmfkpiclpkeemaaAddrImpl
import Derived.Test.YtmfkpiclpkeemaaAddrBytes
import Derived.Test.YtmfkpiclpkeemaaPut
import Derived.Test.YtmfkpiclpkeemaaRegFacts
import Derived.Test.YtmfkpiclpkeemaaBuild
import Derived.Test.YtmfkpiclpkeemaaFk
import Derived.Test.YtmfkpiclpkeemaaRow
import Derived.Test.YtmfkpiclpkeemaaBytesOf
import Derived.Test.YtmfkpiclpkeemaaCells
import Derived.Lib.AppendZeros
import Derived.Deep.Cut
import Derived.Test.YtmfkpiclpkeemaaFkOk
import Derived.Laws.BitsAllLaws
import Derived.Laws.BitsLemmas
import Derived.Test.YtmfkpiclpkeemaaCe
import Derived.Test.YtmfkpiclpkeemaaCeEqv
import Derived.Test.YtmfkpiclpkeemaaFkEqv
import Derived.Deep.QuietTactic
import Derived.BigQuiet
import Derived.Test.YtmfkpiclpkeemaaRegGuard
namespace Go.Proofs.Ytmfkpiclpkeemaa
set_option maxRecDepth 100000
open Go.RowKit

theorem info_adT : (Try.prog.info? 29).map (·.size) = some 5 := by kernel_rfl
theorem range5 {w : World} {g o : Nat} {v0 v1 v2 v3 v4 : Value} (h0 : w.cell? ⟨g, o, none⟩ = some v0) (h1 : w.cell? ⟨g, o + 1, none⟩ = some v1) (h2 : w.cell? ⟨g, o + 2, none⟩ = some v2) (h3 : w.cell? ⟨g, o + 3, none⟩ = some v3) (h4 : w.cell? ⟨g, o + 4, none⟩ = some v4) : w.rangeAt g o [v0, v1, v2, v3, v4] := by
  intro j v hv
  match j, hv with
  | 0, hv => cases hv; exact h0
  | 1, hv => cases hv; exact h1
  | 2, hv => cases hv; exact h2
  | 3, hv => cases hv; exact h3
  | 4, hv => cases hv; exact h4
  | j + 5, hv => simp at hv
theorem bytes1 (n : Int) (h : 0 ≤ n ∧ n < 256) : cellsOf [byteOf n] = [.int .u8 n] := by simp [cellsOf, byteOf_val, Int.emod_eq_of_lt h.1 h.2]
theorem bytes2 (m n : Int) (h : 0 ≤ m ∧ m < 256) (h2 : 0 ≤ n ∧ n < 256) : cellsOf [byteOf m, byteOf n] = [.int .u8 m, .int .u8 n] := by simp [cellsOf, byteOf_val, Int.emod_eq_of_lt h.1 h.2, Int.emod_eq_of_lt h2.1 h2.2]
theorem rbT1 (w : World) (n : Int) (h : 0 ≤ n ∧ n < 256) : RB (w.alloc (.cells #[.int .u8 n] 5)) (w.heap.size + 1) (some ⟨w.heap.size, 0, none⟩) [byteOf n] := by
  have := RB.new w 5 [byteOf n]
  rw [bytes1 n h] at this
  exact this
theorem rbT2 (w : World) (m n : Int) (h : 0 ≤ m ∧ m < 256) (h2 : 0 ≤ n ∧ n < 256) : RB (w.alloc (.cells #[.int .u8 m, .int .u8 n] 5)) (w.heap.size + 1) (some ⟨w.heap.size, 0, none⟩) [byteOf m, byteOf n] := by
  have := RB.new w 5 [byteOf m, byteOf n]
  rw [bytes2 m n h h2] at this
  exact this
theorem adS (x : Ad) (bs : List UInt8) (L : Nat) (h : x.bytes = bs) (hl : bs.length = L) (v : World) : Calls Try.prog 104 #[.agg #[.int .i64 x.k, .int .i64 x.a, .int .i64 x.b, .int .i64 x.c, .int .i64 x.d]] v fun e v' => ∃ A c, e = .returned (.slice A L c) ∧ v'.ownsRow v.heap.size 5 1 (.slice A L c) L (cellsOf bs) ∧ Below v.heap.size v v' := by
  have k := specAddrBytes x v
  unfold BytesOut at k
  rwa [h, hl] at k
theorem adI (x : Ad) (bs : List UInt8) (L : Nat) (h : x.bytes = bs) (hl : bs.length = L) (v : World) : Calls Try.prog 107 #[.agg #[.int .i64 x.k, .int .i64 x.a, .int .i64 x.b, .int .i64 x.c, .int .i64 x.d]] v fun e v' => ∃ A c, e = .returned (.slice A L c) ∧ v'.ownsRow v.heap.size 5 1 (.slice A L c) L (cellsOf bs) ∧ Below v.heap.size v v' := by
  have k := implAddrBytes x v
  unfold BytesOut at k
  rwa [h, hl] at k
theorem p16S (n : Int) (w : World) : Calls Try.prog 105 #[.int .i64 n] w fun e w' => ∃ A c, e = .returned (.slice A 2 c) ∧ w'.ownsRow w.heap.size 5 1 (.slice A 2 c) 2 (cellsOf (put16 n)) ∧ Below w.heap.size w w' := (specPut16 n w).mono fun _ _ ⟨h, o, b⟩ => ⟨_, _, h, o, b⟩
theorem p16I (n : Int) (w : World) : Calls Try.prog 108 #[.int .i64 n] w fun e w' => ∃ A c, e = .returned (.slice A 2 c) ∧ w'.ownsRow w.heap.size 5 1 (.slice A 2 c) 2 (cellsOf (put16 n)) ∧ Below w.heap.size w w' := (implPut16 n w).mono fun _ _ ⟨h, o, b⟩ => ⟨_, _, h, o, b⟩
theorem Fk.parts {k : Fk} (h : k.ok = true) : (0 ≤ k.tenant ∧ k.tenant < 256) ∧ (0 ≤ k.key.src.k ∧ k.key.src.k < 256) ∧ (0 ≤ k.key.proto ∧ k.key.proto < 256) := by
  simp only [Fk.ok, Ky.ok, pairA, btw, upTo, Bool.and_eq_true, decide_eq_true_eq] at h
  have := Ad.ok_kind h.2.1.1.1.1.1
  omega
theorem Ad.short (x : Ad) : x.bytes.length ≤ 16 := by
  unfold Ad.bytes
  split
  · split
    · simp [put32]
    · rw [Ad.whole_length]; omega
  · simp
theorem Fk.short (k : Fk) : k.bytes.length ≤ 39 := by
  have h1 := Ad.short k.key.src
  have h2 := Ad.short k.key.dst
  simp only [Fk.bytes, List.length_append, put16, List.length_cons, List.length_nil]
  omega

section
variable {o : Oper} {a : Act} {w : World} {K : Act → World → Prop} {Q : Exit → Act → World → Prop}
theorem t_mv (x : Operand) (v : Value) (ho : o.op = .move x) (hx : a.eval x = v) (hK : K (a.put o.dst v) w) : o.wp Try.prog a w K Q := by
  unfold Oper.wp execOp
  simp only [ho, hx]
  go_simp
  exact hK
theorem t_int (x : Operand) (g j : Nat) (v : Value) (ho : o.op = .load 3 x) (hx : a.eval x = .pointer (some ⟨g, j, none⟩)) (hc : w.cell? ⟨g, j, none⟩ = some v) (hK : K (a.put o.dst v) w) : o.wp Try.prog a w K Q := by
  unfold Oper.wp execOp
  simp only [ho, hx]
  go_simp
  exact hK
theorem t_byte (x : Operand) (m : Int) (ho : o.op = .convert 3 5 x) (hx : a.eval x = .int .i64 m) (h : 0 ≤ m ∧ m < 256) (hK : K (a.put o.dst (.int .u8 m)) w) : o.wp Try.prog a w K Q := by
  unfold Oper.wp execOp
  simp only [ho, hx]
  go_simp
  rw [show IntKind.u8.wrap m = m by rw [IntKind.wrap_u8]; omega]
  exact hK
theorem t_two (x y : Operand) (m n : Int) (ho : o.op = .buildSlice 65 2 #[(0, x), (1, y)]) (hx : a.eval x = .int .u8 m) (hy : a.eval y = .int .u8 n) (hm : 0 ≤ m ∧ m < 256) (hn : 0 ≤ n ∧ n < 256)
    (hK : ∀ v w', (∃ A c, v = .slice A 2 c ∧ RB w' w'.heap.size A [byteOf m, byteOf n]) → Below w.heap.size w w' → K (a.put o.dst v) w') : o.wp Try.prog a w K Q := by
  unfold Oper.wp execOp
  simp only [ho, List.map_toArray, List.map_cons, List.map_nil, hx, hy]
  go_simp
  exact hK _ _ ⟨_, _, rfl, by have := rbT2 w m n hm hn; simpa using this⟩ (Joins.below_alloc1 w _)
theorem t_one (x : Operand) (m : Int) (ho : o.op = .buildSlice 65 1 #[(0, x)]) (hx : a.eval x = .int .u8 m) (hm : 0 ≤ m ∧ m < 256)
    (hK : ∀ v w', (∃ A c, v = .slice A 1 c ∧ RB w' w'.heap.size A [byteOf m]) → Below w.heap.size w w' → K (a.put o.dst v) w') : o.wp Try.prog a w K Q := by
  unfold Oper.wp execOp
  simp only [ho, List.map_toArray, List.map_cons, List.map_nil, hx]
  go_simp
  exact hK _ _ ⟨_, _, rfl, by have := rbT1 w m hm; simpa using this⟩ (Joins.below_alloc1 w _)
theorem t_ad (x : Operand) (g of : Nat) (r : Ad) (ho : o.op = .load 29 x) (hx : a.eval x = .pointer (some ⟨g, of, none⟩)) (hc : w.rangeAt g of [.int .i64 r.k, .int .i64 r.a, .int .i64 r.b, .int .i64 r.c, .int .i64 r.d]) (hK : K (a.put o.dst (.agg #[.int .i64 r.k, .int .i64 r.a, .int .i64 r.b, .int .i64 r.c, .int .i64 r.d])) w) : o.wp Try.prog a w K Q :=
  wp_load_mid 29 x ho g of hx _ _ hc Try.underlying29 rfl info_adT hK
theorem t_fk0 (x : Operand) (g : Nat) (ho : o.op = .fieldAddr 33 x 0) (hx : a.eval x = .pointer (some ⟨g, 0, none⟩)) (hK : K (a.put o.dst (.pointer (some ⟨g, 0, none⟩))) w) : o.wp Try.prog a w K Q := by
  unfold Oper.wp execOp
  simp only [ho, hx]
  go_simp
  exact hK
theorem t_fk1 (x : Operand) (g : Nat) (ho : o.op = .fieldAddr 33 x 1) (hx : a.eval x = .pointer (some ⟨g, 0, none⟩)) (hK : K (a.put o.dst (.pointer (some ⟨g, 1, none⟩))) w) : o.wp Try.prog a w K Q := by
  unfold Oper.wp execOp
  simp only [ho, hx]
  go_simp
  exact hK
theorem t_ky0 (x : Operand) (g : Nat) (ho : o.op = .fieldAddr 31 x 0) (hx : a.eval x = .pointer (some ⟨g, 1, none⟩)) (hK : K (a.put o.dst (.pointer (some ⟨g, 1, none⟩))) w) : o.wp Try.prog a w K Q := by
  unfold Oper.wp execOp
  simp only [ho, hx]
  go_simp
  exact hK
theorem t_ky1 (x : Operand) (g : Nat) (ho : o.op = .fieldAddr 31 x 1) (hx : a.eval x = .pointer (some ⟨g, 1, none⟩)) (hK : K (a.put o.dst (.pointer (some ⟨g, 6, none⟩))) w) : o.wp Try.prog a w K Q := by
  unfold Oper.wp execOp
  simp only [ho, hx]
  go_simp
  exact hK
theorem t_ky2 (x : Operand) (g : Nat) (ho : o.op = .fieldAddr 31 x 2) (hx : a.eval x = .pointer (some ⟨g, 1, none⟩)) (hK : K (a.put o.dst (.pointer (some ⟨g, 11, none⟩))) w) : o.wp Try.prog a w K Q := by
  unfold Oper.wp execOp
  simp only [ho, hx]
  go_simp
  exact hK
theorem t_ky3 (x : Operand) (g : Nat) (ho : o.op = .fieldAddr 31 x 3) (hx : a.eval x = .pointer (some ⟨g, 1, none⟩)) (hK : K (a.put o.dst (.pointer (some ⟨g, 12, none⟩))) w) : o.wp Try.prog a w K Q := by
  unfold Oper.wp execOp
  simp only [ho, hx]
  go_simp
  exact hK
theorem t_ky4 (x : Operand) (g : Nat) (ho : o.op = .fieldAddr 31 x 4) (hx : a.eval x = .pointer (some ⟨g, 1, none⟩)) (hK : K (a.put o.dst (.pointer (some ⟨g, 13, none⟩))) w) : o.wp Try.prog a w K Q := by
  unfold Oper.wp execOp
  simp only [ho, hx]
  go_simp
  exact hK
theorem t_ad0 (x : Operand) (g : Nat) (ho : o.op = .fieldAddr 29 x 0) (hx : a.eval x = .pointer (some ⟨g, 1, none⟩)) (hK : K (a.put o.dst (.pointer (some ⟨g, 1, none⟩))) w) : o.wp Try.prog a w K Q := by
  unfold Oper.wp execOp
  simp only [ho, hx]
  go_simp
  exact hK
theorem t_c_adI (x : Operand) (x0 : Value) (ts : Array TypeId) (ho : o.op = .call { callee := .value (.func 107), args := #[x], argTypes := ts }) (h0 : a.eval x = x0)
    (h : Calls Try.prog 107 #[x0] w fun e w' => ∃ v, e = .returned v ∧ K (a.put o.dst v) w') : o.wp Try.prog a w K Q := by
  unfold Oper.wp execOp
  simp only [ho, resolve, List.map_toArray, List.map_cons, List.map_nil, h0, show ∀ f, a.eval (.func f) = .func (.func f) #[] #[] from fun _ => rfl]
  go_simp
  exact h.mono fun e w' ⟨u, he, hk⟩ => by subst he; exact hk
theorem t_c_adS (x : Operand) (x0 : Value) (ts : Array TypeId) (ho : o.op = .call { callee := .value (.func 104), args := #[x], argTypes := ts }) (h0 : a.eval x = x0)
    (h : Calls Try.prog 104 #[x0] w fun e w' => ∃ v, e = .returned v ∧ K (a.put o.dst v) w') : o.wp Try.prog a w K Q := by
  unfold Oper.wp execOp
  simp only [ho, resolve, List.map_toArray, List.map_cons, List.map_nil, h0, show ∀ f, a.eval (.func f) = .func (.func f) #[] #[] from fun _ => rfl]
  go_simp
  exact h.mono fun e w' ⟨u, he, hk⟩ => by subst he; exact hk
theorem t_c_p16I (x : Operand) (x0 : Value) (ts : Array TypeId) (ho : o.op = .call { callee := .value (.func 108), args := #[x], argTypes := ts }) (h0 : a.eval x = x0)
    (h : Calls Try.prog 108 #[x0] w fun e w' => ∃ v, e = .returned v ∧ K (a.put o.dst v) w') : o.wp Try.prog a w K Q := by
  unfold Oper.wp execOp
  simp only [ho, resolve, List.map_toArray, List.map_cons, List.map_nil, h0, show ∀ f, a.eval (.func f) = .func (.func f) #[] #[] from fun _ => rfl]
  go_simp
  exact h.mono fun e w' ⟨u, he, hk⟩ => by subst he; exact hk
theorem t_c_p16S (x : Operand) (x0 : Value) (ts : Array TypeId) (ho : o.op = .call { callee := .value (.func 105), args := #[x], argTypes := ts }) (h0 : a.eval x = x0)
    (h : Calls Try.prog 105 #[x0] w fun e w' => ∃ v, e = .returned v ∧ K (a.put o.dst v) w') : o.wp Try.prog a w K Q := by
  unfold Oper.wp execOp
  simp only [ho, resolve, List.map_toArray, List.map_cons, List.map_nil, h0, show ∀ f, a.eval (.func f) = .func (.func f) #[] #[] from fun _ => rfl]
  go_simp
  exact h.mono fun e w' ⟨u, he, hk⟩ => by subst he; exact hk
end
end Go.Proofs.Ytmfkpiclpkeemaa

namespace Go.Proofs.Ytmfkpiclpkeemaa
set_option maxRecDepth 100000
open Go.RowKit

/-- A slice of bytes and what it reads as. -/
structure Pt where
  A : Option Addr
  n : Nat
  c : Nat
  bs : List UInt8
def Pt.val (p : Pt) : Value := .slice p.A p.n p.c
def joined (ps : List Pt) : List UInt8 := ps.flatMap Pt.bs
theorem joined_succ {ps : List Pt} {k : Nat} (h : k < ps.length) : joined (ps.take (k + 1)) = joined (ps.take k) ++ ps[k].bs := by
  rw [take_snoc ps k h, joined, joined, List.flatMap_append]
  simp
theorem joined_le (ps : List Pt) (k : Nat) : (joined (ps.take k)).length ≤ (joined ps).length := by
  have : joined ps = joined (ps.take k) ++ joined (ps.drop k) := by rw [joined, joined, joined, ← List.flatMap_append, List.take_append_drop]
  rw [this, List.length_append]
  omega

set_option maxHeartbeats 1000000 in
theorem growNil (N : Nat) (w : World) (hN : N ≤ 1000) : Calls Try.prog 128 #[.slice none 0 0, .int .i64 (N : Int)] w fun e w' => ∃ D d, e = .returned (.slice D 0 d) ∧ w'.ownsRow w.heap.size 5 1 (.slice D 0 d) 0 (cellsOf []) ∧ Below w.heap.size w w' := by
  by_cases h0 : N = 0
  · subst h0
    go_enter Try.func128, Try.ntmps128
    go_wp2
    go_ret
    exact ⟨none, 0, rfl, ⟨rfl, .inl ⟨rfl, rfl⟩⟩, by go_grown⟩
  · obtain ⟨i0, hi0, hz0, hz1, hz2⟩ := info_parts info_u8
    have hrun := Lib.hid (fun ty => Lib.run_append_nil_zeros w 65 3 ty 5 i0 (.int .u8 0) .i64 .i64 Try.underlying65 Try.underlying3 hi0 hz0 N (by omega) (by omega) (by omega) (by rw [hz2]; omega))
    have hG := grownCap_ge w N 0 5
    have hM := grownCap_le_maxLen w N 0 5 (by unfold maxLen; omega)
    have hM2 := hM
    unfold maxLen at hM2
    generalize grownCap w N 0 5 = G at *
    have hpos : 0 < N := by omega
    clear h0
    go_enter Try.func128, Try.ntmps128
    go_wp2_with (at_builtin; refine Lib.wpList_append_run _ rfl _ _ _ _ rfl _ _ rfl rfl _ _ (hrun.out _) ?_)
    go_ret
    refine ⟨some ⟨w.heap.size, 0, none⟩, G, rfl, ⟨rfl, .inr ⟨w.heap.size, G, _, rfl, Nat.le_refl _, heap_alloc_new w.drew _, Nat.zero_le _, hM, ?_, rfl⟩⟩, K.undrew (Joins.below_alloc1 w.drew _)⟩
    simp [Builtin.zeroCells]
    omega

set_option maxHeartbeats 1000000 in
theorem concatC (g n : Nat) (ps : List Pt) (N : Nat) (w : World) (hrow : RV w w.heap.size (some ⟨g, 0, none⟩) (ps.map Pt.val)) (hl : ps.length = n) (hn : n ≤ 100) (hp : ∀ p ∈ ps, RB w w.heap.size p.A p.bs ∧ p.bs.length = p.n) (hN : (joined ps).length = N) (hb : N ≤ 1000) :
    Calls Try.prog 106 #[.slice (some ⟨g, 0, none⟩) n n] w fun e w' => ∃ D d, e = .returned (.slice D N d) ∧ w'.ownsRow w.heap.size 5 1 (.slice D N d) N (cellsOf (joined ps)) ∧ Below w.heap.size w w' := by
  have HL := Lib.hid hl
  have HP := Lib.hid hp
  have HN := Lib.hid hN
  have HR := Lib.hid hrow
  clear hl hp hN hrow
  go_enter Try.func106, Try.ntmps106
  go_wp2
  go_loop [3, 11] (fun s i => ∃ k : Nat, k ≤ n ∧ i = .int .i64 k ∧ s = .int .i64 ((joined (ps.take k)).length : Int)) (fun _ i => n - (intOf i).toNat)
  case atStart => exact ⟨0, Nat.zero_le _, rfl, by simp [joined]⟩
  case round =>
    obtain ⟨k, hk, rfl, rfl⟩ := hrel
    by_cases hlt : k < n
    · have hk1 : k < ps.length := by rw [HL.out]; exact hlt
      obtain ⟨g', o, e, hg, hc0⟩ := HR.out.at_ (k := k) (by rw [List.length_map]; exact hk1)
      obtain ⟨rfl, rfl⟩ : g = g' ∧ 0 = o := by simpa using e
      rw [List.getElem_map, Nat.zero_add] at hc0
      have hc : w.cell? ⟨g, k, none⟩ = some (.slice ps[k].A ps[k].n ps[k].c) := hc0
      have h1 := joined_le ps k
      have h2 := joined_le ps (k + 1)
      have h3 : (joined (ps.take (k + 1))).length = (joined (ps.take k)).length + ps[k].n := by rw [joined_succ hk1, List.length_append, (HP.out _ (List.getElem_mem hk1)).2]
      rw [HN.out] at h1 h2
      have H3 := Lib.hid h3
      rw [h3] at h2
      clear hc0 e hg h3
      generalize ps[k] = p at *
      generalize (joined (ps.take k)).length = S at *
      go_wp2
      go_round
      case rel => exact ⟨k + 1, by omega, by go_num, by rw [H3.out]; go_num⟩
      case measure => simp [intOf]; omega
    · obtain rfl : k = n := by omega
      have hS : (joined (ps.take k)).length = N := by rw [List.take_of_length_le (by rw [HL.out]; exact Nat.le_refl _)]; exact HN.out
      rw [hS]
      clear hS hk hlt
      go_wp2_with fail
      refine Calls.mono (growNil N _ hb) ?_
      rintro e w1 ⟨D, d, rfl, o1, b1⟩
      have O1 : Hid (w1.ownsRow w.heap.size 5 1 (.slice D 0 d) (joined (ps.take 0)).length (cellsOf (joined (ps.take 0)))) := Lib.hid (by simpa [joined] using o1)
      have B1 := Lib.hid b1
      clear o1 b1
      go_wp2
      go_loopw [6, 27] (fun s i wr => ∃ j : Nat, j ≤ k ∧ i = .int .i64 j ∧ Hid (wr.ownsRow w.heap.size 5 1 s (joined (ps.take j)).length (cellsOf (joined (ps.take j)))) ∧ Hid (Below w.heap.size w wr)) (fun _ i _ => k - (intOf i).toNat)
      case atStart => exact ⟨0, Nat.zero_le _, rfl, O1, B1⟩
      case round =>
        obtain ⟨j, hj, rfl, O, B⟩ := hrel
        clear O1 B1
        by_cases hlt : j < k
        · have hj1 : j < ps.length := by rw [HL.out]; exact hlt
          obtain ⟨g', o, e, hg, hc0⟩ := HR.out.at_ (k := j) (by rw [List.length_map]; exact hj1)
          obtain ⟨rfl, rfl⟩ : g = g' ∧ 0 = o := by simpa using e
          rw [List.getElem_map, Nat.zero_add] at hc0
          have hc : wr.cell? ⟨g, j, none⟩ = some (.slice ps[j].A ps[j].n ps[j].c) := (B.out.cell (p := ⟨g, j, none⟩) hg).trans hc0
          have h1 := joined_le ps j
          have h2 := joined_le ps (j + 1)
          obtain ⟨hrb, hlen⟩ := HP.out _ (List.getElem_mem hj1)
          have h3 := joined_succ hj1
          have h4 : (joined (ps.take (j + 1))).length = (joined (ps.take j)).length + ps[j].n := by rw [h3, List.length_append, hlen]
          have RBp := Lib.hid ((hrb.below B.out).more B.out.size)
          rw [HN.out] at h1 h2
          rw [h4] at h2
          have H3 := Lib.hid h3
          have H4 := Lib.hid h4
          have LN := Lib.hid hlen
          clear hc0 e hg h3 h4 hrb hlen
          generalize ps[j] = p at *
          have lo := O.out.lt
          have Z := B.out.size
          obtain ⟨L, hL⟩ : ∃ L, joined (ps.take j) = L := ⟨_, rfl⟩
          rw [hL] at O h1 h2 H3 H4
          clear hL
          go_wp2_with (at_builtin; (refine wpList_append_b rfl (.tmp 31) (.tmp 32) rfl w.heap.size u6 L rfl O.out _ p.A p.n p.c p.bs rfl LN.out RBp.out (by rw [LN.out]; omega) Z ?_; intro v3 w4 hown3 hg3 _))
          have O3 := Lib.hid hown3
          have B3 := Lib.hid (bgrown B.out hg3 (fun q hq => (lo q hq).1))
          clear hown3 hg3
          go_wp2
          go_roundw
          case rel =>
            refine ⟨j + 1, by omega, by go_num, Lib.hid ?_, B3⟩
            rw [H3.out]
            exact O3.out
          case measure => simp [intOf]; omega
        · obtain rfl : j = k := by omega
          have hS : joined (ps.take j) = joined ps := by rw [List.take_of_length_le (by rw [HL.out]; exact Nat.le_refl _)]
          have OE := O.out
          rw [hS, HN.out] at OE
          obtain ⟨D2, d2, rfl⟩ := own_form OE
          have OE2 := Lib.hid OE
          clear OE O hS
          go_wp2
          go_ret
          exact ⟨D2, d2, rfl, OE2.out, B.out⟩
end Go.Proofs.Ytmfkpiclpkeemaa

namespace Go.Proofs.Ytmfkpiclpkeemaa
set_option maxRecDepth 100000
open Go.RowKit

theorem joined_six (p q r s t u : Pt) : joined [p, q, r, s, t, u] = p.bs ++ q.bs ++ r.bs ++ s.bs ++ t.bs ++ u.bs := by simp [joined]
set_option maxHeartbeats 4000000 in
theorem keyBytesI (k : Fk) (h : k.ok = true) (w : World) : Calls Try.prog 66 #[.agg #[.int .i64 k.tenant, .int .i64 k.key.src.k, .int .i64 k.key.src.a, .int .i64 k.key.src.b, .int .i64 k.key.src.c, .int .i64 k.key.src.d, .int .i64 k.key.dst.k, .int .i64 k.key.dst.a, .int .i64 k.key.dst.b, .int .i64 k.key.dst.c, .int .i64 k.key.dst.d, .int .i64 k.key.proto, .int .i64 k.key.sport, .int .i64 k.key.dport]] w fun e w' => ∃ D n d, e = .returned (.slice D n d) ∧ n = k.bytes.length ∧ w'.ownsRow w.heap.size 5 1 (.slice D n d) n (cellsOf k.bytes) ∧ Below w.heap.size w w' := by
  obtain ⟨bs1, hb1⟩ : ∃ b, k.key.src.bytes = b := ⟨_, rfl⟩
  obtain ⟨bs2, hb2⟩ : ∃ b, k.key.dst.bytes = b := ⟨_, rfl⟩
  obtain ⟨L1, hl1⟩ : ∃ b, bs1.length = b := ⟨_, rfl⟩
  obtain ⟨L2, hl2⟩ : ∃ b, bs2.length = b := ⟨_, rfl⟩
  have HS1 := Lib.hid (show L1 ≤ 16 by rw [← hl1, ← hb1]; exact Ad.short _)
  have HS2 := Lib.hid (show L2 ≤ 16 by rw [← hl2, ← hb2]; exact Ad.short _)
  have HK : Hid ([byteOf k.tenant, byteOf k.key.src.k] ++ bs1 ++ bs2 ++ [byteOf k.key.proto] ++ put16 k.key.sport ++ put16 k.key.dport = k.bytes) := Lib.hid (by rw [Fk.bytes, hb1, hb2])
  have HN : Hid (7 + L1 + L2 = k.bytes.length) := Lib.hid (by rw [← HK.out]; simp only [List.length_append, hl1, hl2, put16, List.length_cons, List.length_nil]; omega)
  have H1 := Lib.hid hb1
  have H2 := Lib.hid hb2
  have HL1 := Lib.hid hl1
  have HL2 := Lib.hid hl2
  have hp := Fk.parts h
  have HT := Lib.hid hp.1
  have HS := Lib.hid hp.2.1
  have HO := Lib.hid hp.2.2
  clear hb1 hb2 hl1 hl2 hp h
  have q0 := Lib.hid (K.new w (.cells #[.int .i64 k.tenant, .int .i64 k.key.src.k, .int .i64 k.key.src.a, .int .i64 k.key.src.b, .int .i64 k.key.src.c, .int .i64 k.key.src.d, .int .i64 k.key.dst.k, .int .i64 k.key.dst.a, .int .i64 k.key.dst.b, .int .i64 k.key.dst.c, .int .i64 k.key.dst.d, .int .i64 k.key.proto, .int .i64 k.key.sport, .int .i64 k.key.dport] 33))
  have HB := Lib.hid (Joins.below_alloc1 w (.cells #[.int .i64 k.tenant, .int .i64 k.key.src.k, .int .i64 k.key.src.a, .int .i64 k.key.src.b, .int .i64 k.key.src.c, .int .i64 k.key.src.d, .int .i64 k.key.dst.k, .int .i64 k.key.dst.a, .int .i64 k.key.dst.b, .int .i64 k.key.dst.c, .int .i64 k.key.dst.d, .int .i64 k.key.proto, .int .i64 k.key.sport, .int .i64 k.key.dport] 33))
  go_enter Try.func66, Try.ntmps66
  go_wp2_with fail
  refine wp_region_facts (by kernel_rfl) 30 35 [(0, 3), (1, 4), (2, 5), (3, 6), (4, 7), (5, 8), (6, 9), (7, 10), (8, 11), (9, 12), (10, 13), (11, 14), (12, 15), (13, 16), (14, 17), (15, 18), (16, 19), (17, 20), (18, 21), (19, 22), (20, 23), (21, 24), (22, 25), (23, 26), (24, 27), (25, 28), (26, 29), (27, 30), (28, 31), (29, 32)] _ ([.val (.pointer (some ⟨w.heap.size, 0, none⟩)), .val (.int .i64 k.tenant), .val (.int .u8 k.tenant), .val (.pointer (some ⟨w.heap.size, 1, none⟩)), .val (.pointer (some ⟨w.heap.size, 1, none⟩)), .val (.pointer (some ⟨w.heap.size, 1, none⟩)), .val (.int .i64 k.key.src.k), .val (.int .u8 k.key.src.k), .rb 2 [byteOf k.tenant, byteOf k.key.src.k], .val (.pointer (some ⟨w.heap.size, 1, none⟩)), .val (.pointer (some ⟨w.heap.size, 1, none⟩)), .val (.agg #[.int .i64 k.key.src.k, .int .i64 k.key.src.a, .int .i64 k.key.src.b, .int .i64 k.key.src.c, .int .i64 k.key.src.d]), .rb L1 bs1, .val (.pointer (some ⟨w.heap.size, 1, none⟩)), .val (.pointer (some ⟨w.heap.size, 6, none⟩)), .val (.agg #[.int .i64 k.key.dst.k, .int .i64 k.key.dst.a, .int .i64 k.key.dst.b, .int .i64 k.key.dst.c, .int .i64 k.key.dst.d]), .rb L2 bs2, .val (.pointer (some ⟨w.heap.size, 1, none⟩)), .val (.pointer (some ⟨w.heap.size, 11, none⟩)), .val (.int .i64 k.key.proto), .val (.int .u8 k.key.proto), .rb 1 [byteOf k.key.proto], .val (.pointer (some ⟨w.heap.size, 1, none⟩)), .val (.pointer (some ⟨w.heap.size, 12, none⟩)), .val (.int .i64 k.key.sport), .rb 2 (put16 k.key.sport), .val (.pointer (some ⟨w.heap.size, 1, none⟩)), .val (.pointer (some ⟨w.heap.size, 13, none⟩)), .val (.int .i64 k.key.dport), .rb 2 (put16 k.key.dport)]) (by kernel_rfl) (by kernel_rfl) rfl rfl ?_ ?_
  · intro j o hj ho a' v K' hx hnd hB hK
    match j, hj, ho with
    | 0, _, ho =>
      obtain rfl := Option.some.inj ho
      have h0 : a'.eval (.tmp 1) = .pointer (some ⟨w.heap.size, 0, none⟩) := (hx 1 (by decide)).trans rfl
      exact t_fk0 _ _ rfl h0 (hK _ _ rfl (Below.refl _ _))
    | 1, _, ho =>
      obtain rfl := Option.some.inj ho
      have h0 : a'.eval (.tmp 3) = .pointer (some ⟨w.heap.size, 0, none⟩) := (fact_of hnd 0 3 (by kernel_rfl) :)
      exact t_int _ _ _ _ rfl h0 (K.cell (K.below hB q0.out) 0 _ rfl) (hK _ _ rfl (Below.refl _ _))
    | 2, _, ho =>
      obtain rfl := Option.some.inj ho
      have h0 : a'.eval (.tmp 4) = .int .i64 k.tenant := (fact_of hnd 1 4 (by kernel_rfl) :)
      exact t_byte _ _ rfl h0 HT.out (hK _ _ rfl (Below.refl _ _))
    | 3, _, ho =>
      obtain rfl := Option.some.inj ho
      have h0 : a'.eval (.tmp 1) = .pointer (some ⟨w.heap.size, 0, none⟩) := (hx 1 (by decide)).trans rfl
      exact t_fk1 _ _ rfl h0 (hK _ _ rfl (Below.refl _ _))
    | 4, _, ho =>
      obtain rfl := Option.some.inj ho
      have h0 : a'.eval (.tmp 6) = .pointer (some ⟨w.heap.size, 1, none⟩) := (fact_of hnd 3 6 (by kernel_rfl) :)
      exact t_ky0 _ _ rfl h0 (hK _ _ rfl (Below.refl _ _))
    | 5, _, ho =>
      obtain rfl := Option.some.inj ho
      have h0 : a'.eval (.tmp 7) = .pointer (some ⟨w.heap.size, 1, none⟩) := (fact_of hnd 4 7 (by kernel_rfl) :)
      exact t_ad0 _ _ rfl h0 (hK _ _ rfl (Below.refl _ _))
    | 6, _, ho =>
      obtain rfl := Option.some.inj ho
      have h0 : a'.eval (.tmp 8) = .pointer (some ⟨w.heap.size, 1, none⟩) := (fact_of hnd 5 8 (by kernel_rfl) :)
      exact t_int _ _ _ _ rfl h0 (K.cell (K.below hB q0.out) 1 _ rfl) (hK _ _ rfl (Below.refl _ _))
    | 7, _, ho =>
      obtain rfl := Option.some.inj ho
      have h0 : a'.eval (.tmp 9) = .int .i64 k.key.src.k := (fact_of hnd 6 9 (by kernel_rfl) :)
      exact t_byte _ _ rfl h0 HS.out (hK _ _ rfl (Below.refl _ _))
    | 8, _, ho =>
      obtain rfl := Option.some.inj ho
      have h0 : a'.eval (.tmp 5) = .int .u8 k.tenant := (fact_of hnd 2 5 (by kernel_rfl) :)
      have h1 : a'.eval (.tmp 10) = .int .u8 k.key.src.k := (fact_of hnd 7 10 (by kernel_rfl) :)
      exact t_two _ _ _ _ rfl h0 h1 HT.out HS.out (fun u v2 hu b6 => hK u v2 hu b6)
    | 9, _, ho =>
      obtain rfl := Option.some.inj ho
      have h0 : a'.eval (.tmp 1) = .pointer (some ⟨w.heap.size, 0, none⟩) := (hx 1 (by decide)).trans rfl
      exact t_fk1 _ _ rfl h0 (hK _ _ rfl (Below.refl _ _))
    | 10, _, ho =>
      obtain rfl := Option.some.inj ho
      have h0 : a'.eval (.tmp 12) = .pointer (some ⟨w.heap.size, 1, none⟩) := (fact_of hnd 9 12 (by kernel_rfl) :)
      exact t_ky0 _ _ rfl h0 (hK _ _ rfl (Below.refl _ _))
    | 11, _, ho =>
      obtain rfl := Option.some.inj ho
      have h0 : a'.eval (.tmp 13) = .pointer (some ⟨w.heap.size, 1, none⟩) := (fact_of hnd 10 13 (by kernel_rfl) :)
      exact t_ad _ _ _ k.key.src rfl h0 (range5 (K.cell (K.below hB q0.out) 1 _ rfl) (K.cell (K.below hB q0.out) 2 _ rfl) (K.cell (K.below hB q0.out) 3 _ rfl) (K.cell (K.below hB q0.out) 4 _ rfl) (K.cell (K.below hB q0.out) 5 _ rfl)) (hK _ _ rfl (Below.refl _ _))
    | 12, _, ho =>
      obtain rfl := Option.some.inj ho
      have h0 : a'.eval (.tmp 14) = .agg #[.int .i64 k.key.src.k, .int .i64 k.key.src.a, .int .i64 k.key.src.b, .int .i64 k.key.src.c, .int .i64 k.key.src.d] := (fact_of hnd 11 14 (by kernel_rfl) :)
      refine t_c_adI _ _ _ rfl h0 (Calls.mono (adI k.key.src bs1 L1 H1.out HL1.out _) ?_)
      rintro e' v' ⟨X, y, rfl, o6, b6⟩
      exact ⟨_, rfl, hK _ _ ⟨X, y, rfl, RB.of_own o6⟩ b6⟩
    | 13, _, ho =>
      obtain rfl := Option.some.inj ho
      have h0 : a'.eval (.tmp 1) = .pointer (some ⟨w.heap.size, 0, none⟩) := (hx 1 (by decide)).trans rfl
      exact t_fk1 _ _ rfl h0 (hK _ _ rfl (Below.refl _ _))
    | 14, _, ho =>
      obtain rfl := Option.some.inj ho
      have h0 : a'.eval (.tmp 16) = .pointer (some ⟨w.heap.size, 1, none⟩) := (fact_of hnd 13 16 (by kernel_rfl) :)
      exact t_ky1 _ _ rfl h0 (hK _ _ rfl (Below.refl _ _))
    | 15, _, ho =>
      obtain rfl := Option.some.inj ho
      have h0 : a'.eval (.tmp 17) = .pointer (some ⟨w.heap.size, 6, none⟩) := (fact_of hnd 14 17 (by kernel_rfl) :)
      exact t_ad _ _ _ k.key.dst rfl h0 (range5 (K.cell (K.below hB q0.out) 6 _ rfl) (K.cell (K.below hB q0.out) 7 _ rfl) (K.cell (K.below hB q0.out) 8 _ rfl) (K.cell (K.below hB q0.out) 9 _ rfl) (K.cell (K.below hB q0.out) 10 _ rfl)) (hK _ _ rfl (Below.refl _ _))
    | 16, _, ho =>
      obtain rfl := Option.some.inj ho
      have h0 : a'.eval (.tmp 18) = .agg #[.int .i64 k.key.dst.k, .int .i64 k.key.dst.a, .int .i64 k.key.dst.b, .int .i64 k.key.dst.c, .int .i64 k.key.dst.d] := (fact_of hnd 15 18 (by kernel_rfl) :)
      refine t_c_adI _ _ _ rfl h0 (Calls.mono (adI k.key.dst bs2 L2 H2.out HL2.out _) ?_)
      rintro e' v' ⟨X, y, rfl, o6, b6⟩
      exact ⟨_, rfl, hK _ _ ⟨X, y, rfl, RB.of_own o6⟩ b6⟩
    | 17, _, ho =>
      obtain rfl := Option.some.inj ho
      have h0 : a'.eval (.tmp 1) = .pointer (some ⟨w.heap.size, 0, none⟩) := (hx 1 (by decide)).trans rfl
      exact t_fk1 _ _ rfl h0 (hK _ _ rfl (Below.refl _ _))
    | 18, _, ho =>
      obtain rfl := Option.some.inj ho
      have h0 : a'.eval (.tmp 20) = .pointer (some ⟨w.heap.size, 1, none⟩) := (fact_of hnd 17 20 (by kernel_rfl) :)
      exact t_ky2 _ _ rfl h0 (hK _ _ rfl (Below.refl _ _))
    | 19, _, ho =>
      obtain rfl := Option.some.inj ho
      have h0 : a'.eval (.tmp 21) = .pointer (some ⟨w.heap.size, 11, none⟩) := (fact_of hnd 18 21 (by kernel_rfl) :)
      exact t_int _ _ _ _ rfl h0 (K.cell (K.below hB q0.out) 11 _ rfl) (hK _ _ rfl (Below.refl _ _))
    | 20, _, ho =>
      obtain rfl := Option.some.inj ho
      have h0 : a'.eval (.tmp 22) = .int .i64 k.key.proto := (fact_of hnd 19 22 (by kernel_rfl) :)
      exact t_byte _ _ rfl h0 HO.out (hK _ _ rfl (Below.refl _ _))
    | 21, _, ho =>
      obtain rfl := Option.some.inj ho
      have h0 : a'.eval (.tmp 23) = .int .u8 k.key.proto := (fact_of hnd 20 23 (by kernel_rfl) :)
      exact t_one _ _ rfl h0 HO.out (fun u v2 hu b6 => hK u v2 hu b6)
    | 22, _, ho =>
      obtain rfl := Option.some.inj ho
      have h0 : a'.eval (.tmp 1) = .pointer (some ⟨w.heap.size, 0, none⟩) := (hx 1 (by decide)).trans rfl
      exact t_fk1 _ _ rfl h0 (hK _ _ rfl (Below.refl _ _))
    | 23, _, ho =>
      obtain rfl := Option.some.inj ho
      have h0 : a'.eval (.tmp 25) = .pointer (some ⟨w.heap.size, 1, none⟩) := (fact_of hnd 22 25 (by kernel_rfl) :)
      exact t_ky3 _ _ rfl h0 (hK _ _ rfl (Below.refl _ _))
    | 24, _, ho =>
      obtain rfl := Option.some.inj ho
      have h0 : a'.eval (.tmp 26) = .pointer (some ⟨w.heap.size, 12, none⟩) := (fact_of hnd 23 26 (by kernel_rfl) :)
      exact t_int _ _ _ _ rfl h0 (K.cell (K.below hB q0.out) 12 _ rfl) (hK _ _ rfl (Below.refl _ _))
    | 25, _, ho =>
      obtain rfl := Option.some.inj ho
      have h0 : a'.eval (.tmp 27) = .int .i64 k.key.sport := (fact_of hnd 24 27 (by kernel_rfl) :)
      refine t_c_p16I _ _ _ rfl h0 (Calls.mono (p16I k.key.sport _) ?_)
      rintro e' v' ⟨X, y, rfl, o6, b6⟩
      exact ⟨_, rfl, hK _ _ ⟨X, y, rfl, RB.of_own o6⟩ b6⟩
    | 26, _, ho =>
      obtain rfl := Option.some.inj ho
      have h0 : a'.eval (.tmp 1) = .pointer (some ⟨w.heap.size, 0, none⟩) := (hx 1 (by decide)).trans rfl
      exact t_fk1 _ _ rfl h0 (hK _ _ rfl (Below.refl _ _))
    | 27, _, ho =>
      obtain rfl := Option.some.inj ho
      have h0 : a'.eval (.tmp 29) = .pointer (some ⟨w.heap.size, 1, none⟩) := (fact_of hnd 26 29 (by kernel_rfl) :)
      exact t_ky4 _ _ rfl h0 (hK _ _ rfl (Below.refl _ _))
    | 28, _, ho =>
      obtain rfl := Option.some.inj ho
      have h0 : a'.eval (.tmp 30) = .pointer (some ⟨w.heap.size, 13, none⟩) := (fact_of hnd 27 30 (by kernel_rfl) :)
      exact t_int _ _ _ _ rfl h0 (K.cell (K.below hB q0.out) 13 _ rfl) (hK _ _ rfl (Below.refl _ _))
    | 29, _, ho =>
      obtain rfl := Option.some.inj ho
      have h0 : a'.eval (.tmp 31) = .int .i64 k.key.dport := (fact_of hnd 28 31 (by kernel_rfl) :)
      refine t_c_p16I _ _ _ rfl h0 (Calls.mono (p16I k.key.dport _) ?_)
      rintro e' v' ⟨X, y, rfl, o6, b6⟩
      exact ⟨_, rfl, hK _ _ ⟨X, y, rfl, RB.of_own o6⟩ b6⟩
    | j + 30, hj, _ => omega
  · intro f v hf hB
    have e0 : f 0 = (.pointer (some ⟨w.heap.size, 0, none⟩)) := hf (0, 3) (by decide)
    have e1 : f 1 = (.int .i64 k.tenant) := hf (1, 4) (by decide)
    have e2 : f 2 = (.int .u8 k.tenant) := hf (2, 5) (by decide)
    have e3 : f 3 = (.pointer (some ⟨w.heap.size, 1, none⟩)) := hf (3, 6) (by decide)
    have e4 : f 4 = (.pointer (some ⟨w.heap.size, 1, none⟩)) := hf (4, 7) (by decide)
    have e5 : f 5 = (.pointer (some ⟨w.heap.size, 1, none⟩)) := hf (5, 8) (by decide)
    have e6 : f 6 = (.int .i64 k.key.src.k) := hf (6, 9) (by decide)
    have e7 : f 7 = (.int .u8 k.key.src.k) := hf (7, 10) (by decide)
    obtain ⟨X11, y11, e8, r8⟩ := hf (8, 11) (by decide)
    have R11 := Lib.hid r8
    clear r8
    have e9 : f 9 = (.pointer (some ⟨w.heap.size, 1, none⟩)) := hf (9, 12) (by decide)
    have e10 : f 10 = (.pointer (some ⟨w.heap.size, 1, none⟩)) := hf (10, 13) (by decide)
    have e11 : f 11 = (.agg #[.int .i64 k.key.src.k, .int .i64 k.key.src.a, .int .i64 k.key.src.b, .int .i64 k.key.src.c, .int .i64 k.key.src.d]) := hf (11, 14) (by decide)
    obtain ⟨X15, y15, e12, r12⟩ := hf (12, 15) (by decide)
    have R15 := Lib.hid r12
    clear r12
    have e13 : f 13 = (.pointer (some ⟨w.heap.size, 1, none⟩)) := hf (13, 16) (by decide)
    have e14 : f 14 = (.pointer (some ⟨w.heap.size, 6, none⟩)) := hf (14, 17) (by decide)
    have e15 : f 15 = (.agg #[.int .i64 k.key.dst.k, .int .i64 k.key.dst.a, .int .i64 k.key.dst.b, .int .i64 k.key.dst.c, .int .i64 k.key.dst.d]) := hf (15, 18) (by decide)
    obtain ⟨X19, y19, e16, r16⟩ := hf (16, 19) (by decide)
    have R19 := Lib.hid r16
    clear r16
    have e17 : f 17 = (.pointer (some ⟨w.heap.size, 1, none⟩)) := hf (17, 20) (by decide)
    have e18 : f 18 = (.pointer (some ⟨w.heap.size, 11, none⟩)) := hf (18, 21) (by decide)
    have e19 : f 19 = (.int .i64 k.key.proto) := hf (19, 22) (by decide)
    have e20 : f 20 = (.int .u8 k.key.proto) := hf (20, 23) (by decide)
    obtain ⟨X24, y24, e21, r21⟩ := hf (21, 24) (by decide)
    have R24 := Lib.hid r21
    clear r21
    have e22 : f 22 = (.pointer (some ⟨w.heap.size, 1, none⟩)) := hf (22, 25) (by decide)
    have e23 : f 23 = (.pointer (some ⟨w.heap.size, 12, none⟩)) := hf (23, 26) (by decide)
    have e24 : f 24 = (.int .i64 k.key.sport) := hf (24, 27) (by decide)
    obtain ⟨X28, y28, e25, r25⟩ := hf (25, 28) (by decide)
    have R28 := Lib.hid r25
    clear r25
    have e26 : f 26 = (.pointer (some ⟨w.heap.size, 1, none⟩)) := hf (26, 29) (by decide)
    have e27 : f 27 = (.pointer (some ⟨w.heap.size, 13, none⟩)) := hf (27, 30) (by decide)
    have e28 : f 28 = (.int .i64 k.key.dport) := hf (28, 31) (by decide)
    obtain ⟨X32, y32, e29, r29⟩ := hf (29, 32) (by decide)
    have R32 := Lib.hid r29
    clear r29
    simp only [List.foldl_cons, List.foldl_nil, List.drop_succ_cons, List.drop_zero, e0, e1, e2, e3, e4, e5, e6, e7, e8, e9, e10, e11, e12, e13, e14, e15, e16, e17, e18, e19, e20, e21, e22, e23, e24, e25, e26, e27, e28, e29]
    clear e0 e1 e2 e3 e4 e5 e6 e7 e8 e9 e10 e11 e12 e13 e14 e15 e16 e17 e18 e19 e20 e21 e22 e23 e24 e25 e26 e27 e28 e29 hf
    go_simp
    have hB2 := Lib.hid hB
    clear hB
    have HR : Hid (RV (v.alloc (.cells #[.slice X11 2 y11, .slice X15 L1 y15, .slice X19 L2 y19, .slice X24 1 y24, .slice X28 2 y28, .slice X32 2 y32] 65)) (v.alloc (.cells #[.slice X11 2 y11, .slice X15 L1 y15, .slice X19 L2 y19, .slice X24 1 y24, .slice X28 2 y28, .slice X32 2 y32] 65)).heap.size (some ⟨v.heap.size, 0, none⟩) (List.map Pt.val [⟨X11, 2, y11, [byteOf k.tenant, byteOf k.key.src.k]⟩, ⟨X15, L1, y15, bs1⟩, ⟨X19, L2, y19, bs2⟩, ⟨X24, 1, y24, [byteOf k.key.proto]⟩, ⟨X28, 2, y28, put16 k.key.sport⟩, ⟨X32, 2, y32, put16 k.key.dport⟩])) := Lib.hid ((RV.new v 65 (List.map Pt.val [⟨X11, 2, y11, [byteOf k.tenant, byteOf k.key.src.k]⟩, ⟨X15, L1, y15, bs1⟩, ⟨X19, L2, y19, bs2⟩, ⟨X24, 1, y24, [byteOf k.key.proto]⟩, ⟨X28, 2, y28, put16 k.key.sport⟩, ⟨X32, 2, y32, put16 k.key.dport⟩])).more (by simp))
    have Q11 := Lib.hid ((R11.out.below (Joins.below_alloc1 v (.cells #[.slice X11 2 y11, .slice X15 L1 y15, .slice X19 L2 y19, .slice X24 1 y24, .slice X28 2 y28, .slice X32 2 y32] 65))).more (show v.heap.size ≤ (v.alloc (.cells #[.slice X11 2 y11, .slice X15 L1 y15, .slice X19 L2 y19, .slice X24 1 y24, .slice X28 2 y28, .slice X32 2 y32] 65)).heap.size by simp))
    have Q15 := Lib.hid ((R15.out.below (Joins.below_alloc1 v (.cells #[.slice X11 2 y11, .slice X15 L1 y15, .slice X19 L2 y19, .slice X24 1 y24, .slice X28 2 y28, .slice X32 2 y32] 65))).more (show v.heap.size ≤ (v.alloc (.cells #[.slice X11 2 y11, .slice X15 L1 y15, .slice X19 L2 y19, .slice X24 1 y24, .slice X28 2 y28, .slice X32 2 y32] 65)).heap.size by simp))
    have Q19 := Lib.hid ((R19.out.below (Joins.below_alloc1 v (.cells #[.slice X11 2 y11, .slice X15 L1 y15, .slice X19 L2 y19, .slice X24 1 y24, .slice X28 2 y28, .slice X32 2 y32] 65))).more (show v.heap.size ≤ (v.alloc (.cells #[.slice X11 2 y11, .slice X15 L1 y15, .slice X19 L2 y19, .slice X24 1 y24, .slice X28 2 y28, .slice X32 2 y32] 65)).heap.size by simp))
    have Q24 := Lib.hid ((R24.out.below (Joins.below_alloc1 v (.cells #[.slice X11 2 y11, .slice X15 L1 y15, .slice X19 L2 y19, .slice X24 1 y24, .slice X28 2 y28, .slice X32 2 y32] 65))).more (show v.heap.size ≤ (v.alloc (.cells #[.slice X11 2 y11, .slice X15 L1 y15, .slice X19 L2 y19, .slice X24 1 y24, .slice X28 2 y28, .slice X32 2 y32] 65)).heap.size by simp))
    have Q28 := Lib.hid ((R28.out.below (Joins.below_alloc1 v (.cells #[.slice X11 2 y11, .slice X15 L1 y15, .slice X19 L2 y19, .slice X24 1 y24, .slice X28 2 y28, .slice X32 2 y32] 65))).more (show v.heap.size ≤ (v.alloc (.cells #[.slice X11 2 y11, .slice X15 L1 y15, .slice X19 L2 y19, .slice X24 1 y24, .slice X28 2 y28, .slice X32 2 y32] 65)).heap.size by simp))
    have Q32 := Lib.hid ((R32.out.below (Joins.below_alloc1 v (.cells #[.slice X11 2 y11, .slice X15 L1 y15, .slice X19 L2 y19, .slice X24 1 y24, .slice X28 2 y28, .slice X32 2 y32] 65))).more (show v.heap.size ≤ (v.alloc (.cells #[.slice X11 2 y11, .slice X15 L1 y15, .slice X19 L2 y19, .slice X24 1 y24, .slice X28 2 y28, .slice X32 2 y32] 65)).heap.size by simp))
    have HB2 := Lib.hid (bthen HB.out (bthen hB2.out (Joins.below_alloc1 v (.cells #[.slice X11 2 y11, .slice X15 L1 y15, .slice X19 L2 y19, .slice X24 1 y24, .slice X28 2 y28, .slice X32 2 y32] 65))))
    clear R11 R15 R19 R24 R28 R32 hB2
    go_wp2_with fail
    refine Calls.mono (concatC v.heap.size 6 [⟨X11, 2, y11, [byteOf k.tenant, byteOf k.key.src.k]⟩, ⟨X15, L1, y15, bs1⟩, ⟨X19, L2, y19, bs2⟩, ⟨X24, 1, y24, [byteOf k.key.proto]⟩, ⟨X28, 2, y28, put16 k.key.sport⟩, ⟨X32, 2, y32, put16 k.key.dport⟩] (7 + L1 + L2) _ HR.out rfl (by omega) ?_ ?_ ?_) ?_
    · intro p hp
      simp only [List.mem_cons, List.not_mem_nil, or_false] at hp
      rcases hp with rfl | rfl | rfl | rfl | rfl | rfl
      · exact ⟨Q11.out, rfl⟩
      · exact ⟨Q15.out, HL1.out⟩
      · exact ⟨Q19.out, HL2.out⟩
      · exact ⟨Q24.out, rfl⟩
      · exact ⟨Q28.out, rfl⟩
      · exact ⟨Q32.out, rfl⟩
    · rw [joined_six, List.length_append, List.length_append, List.length_append, List.length_append, List.length_append, HL1.out, HL2.out]
      simp only [put16, List.length_cons, List.length_nil]
      omega
    · have h1 := HS1.out
      have h2 := HS2.out
      omega
    · rintro e w5 ⟨D, d, rfl, o5, b5⟩
      rw [joined_six, HK.out] at o5
      have O5 := Lib.hid o5
      have B5 := Lib.hid (bthen HB2.out b5)
      clear o5 b5
      go_wp2
      go_ret
      exact ⟨D, _, d, rfl, HN.out, own_base O5.out (by have := HB2.out.size; omega), B5.out⟩
end Go.Proofs.Ytmfkpiclpkeemaa

namespace Go.Proofs.Ytmfkpiclpkeemaa
set_option maxRecDepth 100000
open Go.RowKit

set_option maxHeartbeats 8000000 in
theorem keyBytesS (k : Fk) (h : k.ok = true) (w : World) : Calls Try.prog 65 #[.agg #[.int .i64 k.tenant, .int .i64 k.key.src.k, .int .i64 k.key.src.a, .int .i64 k.key.src.b, .int .i64 k.key.src.c, .int .i64 k.key.src.d, .int .i64 k.key.dst.k, .int .i64 k.key.dst.a, .int .i64 k.key.dst.b, .int .i64 k.key.dst.c, .int .i64 k.key.dst.d, .int .i64 k.key.proto, .int .i64 k.key.sport, .int .i64 k.key.dport]] w fun e w' => ∃ D n d, e = .returned (.slice D n d) ∧ n = k.bytes.length ∧ w'.ownsRow w.heap.size 5 1 (.slice D n d) n (cellsOf k.bytes) ∧ Below w.heap.size w w' := by
  obtain ⟨bs1, hb1⟩ : ∃ b, k.key.src.bytes = b := ⟨_, rfl⟩
  obtain ⟨bs2, hb2⟩ : ∃ b, k.key.dst.bytes = b := ⟨_, rfl⟩
  obtain ⟨L1, hl1⟩ : ∃ b, bs1.length = b := ⟨_, rfl⟩
  obtain ⟨L2, hl2⟩ : ∃ b, bs2.length = b := ⟨_, rfl⟩
  have HS1 := Lib.hid (show L1 ≤ 16 by rw [← hl1, ← hb1]; exact Ad.short _)
  have HS2 := Lib.hid (show L2 ≤ 16 by rw [← hl2, ← hb2]; exact Ad.short _)
  have HK : Hid ([byteOf k.tenant, byteOf k.key.src.k] ++ bs1 ++ bs2 ++ [byteOf k.key.proto] ++ put16 k.key.sport ++ put16 k.key.dport = k.bytes) := Lib.hid (by rw [Fk.bytes, hb1, hb2])
  have HN : Hid (7 + L1 + L2 = k.bytes.length) := Lib.hid (by rw [← HK.out]; simp only [List.length_append, hl1, hl2, put16, List.length_cons, List.length_nil]; omega)
  have H1 := Lib.hid hb1
  have H2 := Lib.hid hb2
  have HL1 := Lib.hid hl1
  have HL2 := Lib.hid hl2
  have hp := Fk.parts h
  have HT := Lib.hid hp.1
  have HS := Lib.hid hp.2.1
  have HO := Lib.hid hp.2.2
  clear hb1 hb2 hl1 hl2 hp h
  have q : Hid ((w.alloc (.cells #[.int .i64 k.tenant, .int .i64 k.key.src.k, .int .i64 k.key.src.a, .int .i64 k.key.src.b, .int .i64 k.key.src.c, .int .i64 k.key.src.d, .int .i64 k.key.dst.k, .int .i64 k.key.dst.a, .int .i64 k.key.dst.b, .int .i64 k.key.dst.c, .int .i64 k.key.dst.d, .int .i64 k.key.proto, .int .i64 k.key.sport, .int .i64 k.key.dport] 33)).heap[w.heap.size]? = some (.cells #[.int .i64 k.tenant, .int .i64 k.key.src.k, .int .i64 k.key.src.a, .int .i64 k.key.src.b, .int .i64 k.key.src.c, .int .i64 k.key.src.d, .int .i64 k.key.dst.k, .int .i64 k.key.dst.a, .int .i64 k.key.dst.b, .int .i64 k.key.dst.c, .int .i64 k.key.dst.d, .int .i64 k.key.proto, .int .i64 k.key.sport, .int .i64 k.key.dport] 33 (0, 0))) := Lib.hid (K.new w (.cells #[.int .i64 k.tenant, .int .i64 k.key.src.k, .int .i64 k.key.src.a, .int .i64 k.key.src.b, .int .i64 k.key.src.c, .int .i64 k.key.src.d, .int .i64 k.key.dst.k, .int .i64 k.key.dst.a, .int .i64 k.key.dst.b, .int .i64 k.key.dst.c, .int .i64 k.key.dst.d, .int .i64 k.key.proto, .int .i64 k.key.sport, .int .i64 k.key.dport] 33))
  have HE := Lib.hid (Joins.below_alloc1 w (.cells #[.int .i64 k.tenant, .int .i64 k.key.src.k, .int .i64 k.key.src.a, .int .i64 k.key.src.b, .int .i64 k.key.src.c, .int .i64 k.key.src.d, .int .i64 k.key.dst.k, .int .i64 k.key.dst.a, .int .i64 k.key.dst.b, .int .i64 k.key.dst.c, .int .i64 k.key.dst.d, .int .i64 k.key.proto, .int .i64 k.key.sport, .int .i64 k.key.dport] 33))
  have hb9 : IntKind.u8.wrap k.tenant = k.tenant := by have := HT.out; rw [IntKind.wrap_u8]; omega
  have hb10 : IntKind.u8.wrap k.key.src.k = k.key.src.k := by have := HS.out; rw [IntKind.wrap_u8]; omega
  have hb11 : IntKind.u8.wrap k.key.proto = k.key.proto := by have := HO.out; rw [IntKind.wrap_u8]; omega
  have BA0 : Hid (Bd (w.alloc (.cells #[.int .i64 k.tenant, .int .i64 k.key.src.k, .int .i64 k.key.src.a, .int .i64 k.key.src.b, .int .i64 k.key.src.c, .int .i64 k.key.src.d, .int .i64 k.key.dst.k, .int .i64 k.key.dst.a, .int .i64 k.key.dst.b, .int .i64 k.key.dst.c, .int .i64 k.key.dst.d, .int .i64 k.key.proto, .int .i64 k.key.sport, .int .i64 k.key.dport] 33)) (w.heap.size + 1) ((w.alloc (.cells #[.int .i64 k.tenant, .int .i64 k.key.src.k, .int .i64 k.key.src.a, .int .i64 k.key.src.b, .int .i64 k.key.src.c, .int .i64 k.key.src.d, .int .i64 k.key.dst.k, .int .i64 k.key.dst.a, .int .i64 k.key.dst.b, .int .i64 k.key.dst.c, .int .i64 k.key.dst.d, .int .i64 k.key.proto, .int .i64 k.key.sport, .int .i64 k.key.dport] 33)).alloc (.cells #[.int .u8 k.tenant, .int .u8 k.key.src.k] 5)) (some ⟨w.heap.size + 1, 0, none⟩) 2 2 [byteOf k.tenant, byteOf k.key.src.k]) := Lib.hid ⟨by
    have h := World.ownsRow_lit (base := w.heap.size + 1) (e := 5) (size := 1) (w.alloc (.cells #[.int .i64 k.tenant, .int .i64 k.key.src.k, .int .i64 k.key.src.a, .int .i64 k.key.src.b, .int .i64 k.key.src.c, .int .i64 k.key.src.d, .int .i64 k.key.dst.k, .int .i64 k.key.dst.a, .int .i64 k.key.dst.b, .int .i64 k.key.dst.c, .int .i64 k.key.dst.d, .int .i64 k.key.proto, .int .i64 k.key.sport, .int .i64 k.key.dport] 33)) #[.int .u8 k.tenant, .int .u8 k.key.src.k] 2 (by simp) (by decide) rfl
    rw [bytes2 _ _ HT.out HS.out]
    simpa using h, (Below.refl _ _).alloc (by simp) _, by simp, rfl⟩
  have k0 := K.cell q.out 0 _ rfl
  have k1 := K.cell q.out 1 _ rfl
  go_enter Try.func65, Try.ntmps65
  go_upto_region 2 with fail
  clear k0 k1 hb9 hb10
  obtain ⟨A2, hA2⟩ : ∃ A : Option Addr, A = some ⟨w.heap.size + 1, 0, none⟩ := ⟨_, rfl⟩
  have BA1 := BA0.out
  clear BA0
  rw [← hA2] at BA1 ⊢
  generalize ((w.alloc (.cells #[.int .i64 k.tenant, .int .i64 k.key.src.k, .int .i64 k.key.src.a, .int .i64 k.key.src.b, .int .i64 k.key.src.c, .int .i64 k.key.src.d, .int .i64 k.key.dst.k, .int .i64 k.key.dst.a, .int .i64 k.key.dst.b, .int .i64 k.key.dst.c, .int .i64 k.key.dst.d, .int .i64 k.key.proto, .int .i64 k.key.sport, .int .i64 k.key.dport] 33)).alloc (.cells #[.int .u8 k.tenant, .int .u8 k.key.src.k] 5)) = w2 at BA1 ⊢
  have BA := Lib.hid BA1
  clear BA1 hA2
  refine wp_region_apps (by kernel_rfl) 10 42 [(0, 13), (1, 14), (2, 15), (3, 16), (4, 17), (5, 18), (6, 19), (7, 20), (8, 21), (9, 22)] _ ([.val (.slice A2 2 2), .val (.pointer (some ⟨w.heap.size, 1, none⟩)), .val (.pointer (some ⟨w.heap.size, 1, none⟩)), .val (.agg #[.int .i64 k.key.src.k, .int .i64 k.key.src.a, .int .i64 k.key.src.b, .int .i64 k.key.src.c, .int .i64 k.key.src.d]), .own w2.heap.size L1 bs1, .any, .val (.pointer (some ⟨w.heap.size, 1, none⟩)), .val (.pointer (some ⟨w.heap.size, 6, none⟩)), .val (.agg #[.int .i64 k.key.dst.k, .int .i64 k.key.dst.a, .int .i64 k.key.dst.b, .int .i64 k.key.dst.c, .int .i64 k.key.dst.d]), .own w2.heap.size L2 bs2]) (by kernel_rfl) (by kernel_rfl) rfl 5 18 (by omega) (by decide) rfl (by simp) BA.out ((2 + L1)) ([byteOf k.tenant, byteOf k.key.src.k] ++ bs1) (by simp only [List.length_append, HL1.out, List.length_cons, List.length_nil]; try omega) ?_ ?_ ?_
  · intro j o hj hjp ho a' v K' hx hnd hB hS hK
    match j, hj, hjp, ho with
    | 0, _, _, ho =>
      obtain rfl := Option.some.inj ho
      have h0 : a'.eval (.tmp 3) = .slice A2 2 2 := (hx 3 (by decide)).trans rfl
      exact t_mv _ _ rfl h0 (hK _ _ rfl (Below.refl _ _))
    | 1, _, _, ho =>
      obtain rfl := Option.some.inj ho
      have h0 : a'.eval (.tmp 1) = .pointer (some ⟨w.heap.size, 0, none⟩) := (hx 1 (by decide)).trans rfl
      exact t_fk1 _ _ rfl h0 (hK _ _ rfl (Below.refl _ _))
    | 2, _, _, ho =>
      obtain rfl := Option.some.inj ho
      have h0 : a'.eval (.tmp 14) = .pointer (some ⟨w.heap.size, 1, none⟩) := (apps_of hnd 1 14 (by kernel_rfl) (by decide) :)
      exact t_ky0 _ _ rfl h0 (hK _ _ rfl (Below.refl _ _))
    | 3, _, _, ho =>
      obtain rfl := Option.some.inj ho
      have h0 : a'.eval (.tmp 15) = .pointer (some ⟨w.heap.size, 1, none⟩) := (apps_of hnd 2 15 (by kernel_rfl) (by decide) :)
      exact t_ad _ _ _ k.key.src rfl h0 (range5 (K.cell (K.on hB (by omega) q.out) 1 _ rfl) (K.cell (K.on hB (by omega) q.out) 2 _ rfl) (K.cell (K.on hB (by omega) q.out) 3 _ rfl) (K.cell (K.on hB (by omega) q.out) 4 _ rfl) (K.cell (K.on hB (by omega) q.out) 5 _ rfl)) (hK _ _ rfl (Below.refl _ _))
    | 4, _, _, ho =>
      obtain rfl := Option.some.inj ho
      have h0 : a'.eval (.tmp 16) = .agg #[.int .i64 k.key.src.k, .int .i64 k.key.src.a, .int .i64 k.key.src.b, .int .i64 k.key.src.c, .int .i64 k.key.src.d] := (apps_of hnd 3 16 (by kernel_rfl) (by decide) :)
      refine t_c_adS _ _ _ rfl h0 (Calls.mono (adS k.key.src bs1 L1 H1.out HL1.out _) ?_)
      rintro e' v' ⟨X, y, rfl, o6, b6⟩
      exact ⟨_, rfl, hK _ _ ⟨X, y, rfl, own_base o6 hS⟩ b6⟩
    | 5, _, hjp, _ => exact absurd rfl hjp
    | 6, _, _, ho =>
      obtain rfl := Option.some.inj ho
      have h0 : a'.eval (.tmp 1) = .pointer (some ⟨w.heap.size, 0, none⟩) := (hx 1 (by decide)).trans rfl
      exact t_fk1 _ _ rfl h0 (hK _ _ rfl (Below.refl _ _))
    | 7, _, _, ho =>
      obtain rfl := Option.some.inj ho
      have h0 : a'.eval (.tmp 19) = .pointer (some ⟨w.heap.size, 1, none⟩) := (apps_of hnd 6 19 (by kernel_rfl) (by decide) :)
      exact t_ky1 _ _ rfl h0 (hK _ _ rfl (Below.refl _ _))
    | 8, _, _, ho =>
      obtain rfl := Option.some.inj ho
      have h0 : a'.eval (.tmp 20) = .pointer (some ⟨w.heap.size, 6, none⟩) := (apps_of hnd 7 20 (by kernel_rfl) (by decide) :)
      exact t_ad _ _ _ k.key.dst rfl h0 (range5 (K.cell (K.on hB (by omega) q.out) 6 _ rfl) (K.cell (K.on hB (by omega) q.out) 7 _ rfl) (K.cell (K.on hB (by omega) q.out) 8 _ rfl) (K.cell (K.on hB (by omega) q.out) 9 _ rfl) (K.cell (K.on hB (by omega) q.out) 10 _ rfl)) (hK _ _ rfl (Below.refl _ _))
    | 9, _, _, ho =>
      obtain rfl := Option.some.inj ho
      have h0 : a'.eval (.tmp 21) = .agg #[.int .i64 k.key.dst.k, .int .i64 k.key.dst.a, .int .i64 k.key.dst.b, .int .i64 k.key.dst.c, .int .i64 k.key.dst.d] := (apps_of hnd 8 21 (by kernel_rfl) (by decide) :)
      refine t_c_adS _ _ _ rfl h0 (Calls.mono (adS k.key.dst bs2 L2 H2.out HL2.out _) ?_)
      rintro e' v' ⟨X, y, rfl, o6, b6⟩
      exact ⟨_, rfl, hK _ _ ⟨X, y, rfl, own_base o6 hS⟩ b6⟩
    | j + 10, hj, _, _ => omega
  · intro o ho a' v K' hx hnd hBD hS hK
    obtain rfl := Option.some.inj ho
    have h0 : a'.eval (.tmp 13) = .slice A2 2 2 := (apps_of hnd 0 13 (by kernel_rfl) (by decide) :)
    obtain ⟨P1, p1, h1, r1⟩ := (apps_of hnd 4 17 (by kernel_rfl) (by decide) :)
    exact wp_append_bd rfl hBD (.tmp 13) (.tmp 17) rfl h0 _ P1 L1 p1 bs1 h1 HL1.out (RB.of_own r1) (by have h1 := HS1.out; omega) hK
  · intro f v A1_ c1_ hf hp BD_
    have e0 : f 0 = (.slice A2 2 2) := hf (0, 13) (by decide) (by decide)
    have e1 : f 1 = (.pointer (some ⟨w.heap.size, 1, none⟩)) := hf (1, 14) (by decide) (by decide)
    have e2 : f 2 = (.pointer (some ⟨w.heap.size, 1, none⟩)) := hf (2, 15) (by decide) (by decide)
    have e3 : f 3 = (.agg #[.int .i64 k.key.src.k, .int .i64 k.key.src.a, .int .i64 k.key.src.b, .int .i64 k.key.src.c, .int .i64 k.key.src.d]) := hf (3, 16) (by decide) (by decide)
    obtain ⟨X17, y17, e4, r4⟩ := hf (4, 17) (by decide) (by decide)
    have R17 := Lib.hid r4
    clear r4
    have e6 : f 6 = (.pointer (some ⟨w.heap.size, 1, none⟩)) := hf (6, 19) (by decide) (by decide)
    have e7 : f 7 = (.pointer (some ⟨w.heap.size, 6, none⟩)) := hf (7, 20) (by decide) (by decide)
    have e8 : f 8 = (.agg #[.int .i64 k.key.dst.k, .int .i64 k.key.dst.a, .int .i64 k.key.dst.b, .int .i64 k.key.dst.c, .int .i64 k.key.dst.d]) := hf (8, 21) (by decide) (by decide)
    obtain ⟨X22, y22, e9, r9⟩ := hf (9, 22) (by decide) (by decide)
    have R22 := Lib.hid r9
    clear r9
    have BD_ := Lib.hid BD_
    simp only [List.foldl_cons, List.foldl_nil, List.drop_succ_cons, List.drop_zero, hp, e0, e1, e2, e3, e4, e6, e7, e8, e9]
    clear hp e0 e1 e2 e3 e4 e6 e7 e8 e9 hf
    go_simp
    refine wpList_append_bd rfl BD_.out (.tmp 18) (.tmp 22) rfl rfl _ _ L2 _ (bs2) rfl HL2.out (RB.of_own R22.out) (by have h1 := HS1.out; have h2 := HS2.out; omega) (2 + L1 + L2) (by omega) ?_
    intro A_BB c_BB w_BB bd_BB
    have BB := Lib.hid bd_BB
    clear bd_BB
    have k11 := K.cell (BB.out.row q.out (by omega)) 11 _ rfl
    clear R17 R22 BD_
    go_wp2_with (at_builtin; (refine wpList_append_bd rfl (BB.out.call (Joins.below_alloc1 _ (.cells #[.int .u8 k.key.proto] 5))) (.tmp 24) (.tmp 29) rfl rfl _ _ 1 _ [byteOf k.key.proto] rfl rfl (by have h := rbT1 w_BB k.key.proto HO.out; simpa using h) (by have h1 := HS1.out; have h2 := HS2.out; omega) (3 + L1 + L2) (by omega) ?_); intro A_BC c_BC w_BC bd_BC; have BC := Lib.hid bd_BC; clear bd_BC k11 hb11)
    clear BB
    refine wp_region_apps (by kernel_rfl) 10 42 [(0, 31), (1, 32), (2, 33), (3, 34), (4, 35), (5, 36), (6, 37), (7, 38), (8, 39), (9, 40)] _ ([.val (.slice A_BC (3 + L1 + L2) c_BC), .val (.pointer (some ⟨w.heap.size, 1, none⟩)), .val (.pointer (some ⟨w.heap.size, 12, none⟩)), .val (.int .i64 k.key.sport), .own w_BC.heap.size 2 (put16 k.key.sport), .any, .val (.pointer (some ⟨w.heap.size, 1, none⟩)), .val (.pointer (some ⟨w.heap.size, 13, none⟩)), .val (.int .i64 k.key.dport), .own w_BC.heap.size 2 (put16 k.key.dport)]) (by kernel_rfl) (by kernel_rfl) rfl 5 36 (by omega) (by decide) rfl (by simp) BC.out ((3 + L1 + L2 + 2)) ([byteOf k.tenant, byteOf k.key.src.k] ++ bs1 ++ bs2 ++ [byteOf k.key.proto] ++ put16 k.key.sport) (by simp only [List.length_append, HL1.out, HL2.out, put16, List.length_cons, List.length_nil]; try omega) ?_ ?_ ?_
    · intro j o hj hjp ho a' v K' hx hnd hB hS hK
      match j, hj, hjp, ho with
      | 0, _, _, ho =>
        obtain rfl := Option.some.inj ho
        have h0 : a'.eval (.tmp 3) = .slice A_BC (3 + L1 + L2) c_BC := (hx 3 (by decide)).trans rfl
        exact t_mv _ _ rfl h0 (hK _ _ rfl (Below.refl _ _))
      | 1, _, _, ho =>
        obtain rfl := Option.some.inj ho
        have h0 : a'.eval (.tmp 1) = .pointer (some ⟨w.heap.size, 0, none⟩) := (hx 1 (by decide)).trans rfl
        exact t_fk1 _ _ rfl h0 (hK _ _ rfl (Below.refl _ _))
      | 2, _, _, ho =>
        obtain rfl := Option.some.inj ho
        have h0 : a'.eval (.tmp 32) = .pointer (some ⟨w.heap.size, 1, none⟩) := (apps_of hnd 1 32 (by kernel_rfl) (by decide) :)
        exact t_ky3 _ _ rfl h0 (hK _ _ rfl (Below.refl _ _))
      | 3, _, _, ho =>
        obtain rfl := Option.some.inj ho
        have h0 : a'.eval (.tmp 33) = .pointer (some ⟨w.heap.size, 12, none⟩) := (apps_of hnd 2 33 (by kernel_rfl) (by decide) :)
        exact t_int _ _ _ _ rfl h0 (K.cell (K.on hB (by omega) q.out) 12 _ rfl) (hK _ _ rfl (Below.refl _ _))
      | 4, _, _, ho =>
        obtain rfl := Option.some.inj ho
        have h0 : a'.eval (.tmp 34) = .int .i64 k.key.sport := (apps_of hnd 3 34 (by kernel_rfl) (by decide) :)
        refine t_c_p16S _ _ _ rfl h0 (Calls.mono (p16S k.key.sport _) ?_)
        rintro e' v' ⟨X, y, rfl, o6, b6⟩
        exact ⟨_, rfl, hK _ _ ⟨X, y, rfl, own_base o6 hS⟩ b6⟩
      | 5, _, hjp, _ => exact absurd rfl hjp
      | 6, _, _, ho =>
        obtain rfl := Option.some.inj ho
        have h0 : a'.eval (.tmp 1) = .pointer (some ⟨w.heap.size, 0, none⟩) := (hx 1 (by decide)).trans rfl
        exact t_fk1 _ _ rfl h0 (hK _ _ rfl (Below.refl _ _))
      | 7, _, _, ho =>
        obtain rfl := Option.some.inj ho
        have h0 : a'.eval (.tmp 37) = .pointer (some ⟨w.heap.size, 1, none⟩) := (apps_of hnd 6 37 (by kernel_rfl) (by decide) :)
        exact t_ky4 _ _ rfl h0 (hK _ _ rfl (Below.refl _ _))
      | 8, _, _, ho =>
        obtain rfl := Option.some.inj ho
        have h0 : a'.eval (.tmp 38) = .pointer (some ⟨w.heap.size, 13, none⟩) := (apps_of hnd 7 38 (by kernel_rfl) (by decide) :)
        exact t_int _ _ _ _ rfl h0 (K.cell (K.on hB (by omega) q.out) 13 _ rfl) (hK _ _ rfl (Below.refl _ _))
      | 9, _, _, ho =>
        obtain rfl := Option.some.inj ho
        have h0 : a'.eval (.tmp 39) = .int .i64 k.key.dport := (apps_of hnd 8 39 (by kernel_rfl) (by decide) :)
        refine t_c_p16S _ _ _ rfl h0 (Calls.mono (p16S k.key.dport _) ?_)
        rintro e' v' ⟨X, y, rfl, o6, b6⟩
        exact ⟨_, rfl, hK _ _ ⟨X, y, rfl, own_base o6 hS⟩ b6⟩
      | j + 10, hj, _, _ => omega
    · intro o ho a' v K' hx hnd hBD hS hK
      obtain rfl := Option.some.inj ho
      have h0 : a'.eval (.tmp 31) = .slice A_BC (3 + L1 + L2) c_BC := (apps_of hnd 0 31 (by kernel_rfl) (by decide) :)
      obtain ⟨P1, p1, h1, r1⟩ := (apps_of hnd 4 35 (by kernel_rfl) (by decide) :)
      exact wp_append_bd rfl hBD (.tmp 31) (.tmp 35) rfl h0 _ P1 2 p1 (put16 k.key.sport) h1 rfl (RB.of_own r1) (by have h1 := HS1.out; have h2 := HS2.out; omega) hK
    · intro f v A1_ c1_ hf hp BD_
      have e0 : f 0 = (.slice A_BC (3 + L1 + L2) c_BC) := hf (0, 31) (by decide) (by decide)
      have e1 : f 1 = (.pointer (some ⟨w.heap.size, 1, none⟩)) := hf (1, 32) (by decide) (by decide)
      have e2 : f 2 = (.pointer (some ⟨w.heap.size, 12, none⟩)) := hf (2, 33) (by decide) (by decide)
      have e3 : f 3 = (.int .i64 k.key.sport) := hf (3, 34) (by decide) (by decide)
      obtain ⟨X35, y35, e4, r4⟩ := hf (4, 35) (by decide) (by decide)
      have R35 := Lib.hid r4
      clear r4
      have e6 : f 6 = (.pointer (some ⟨w.heap.size, 1, none⟩)) := hf (6, 37) (by decide) (by decide)
      have e7 : f 7 = (.pointer (some ⟨w.heap.size, 13, none⟩)) := hf (7, 38) (by decide) (by decide)
      have e8 : f 8 = (.int .i64 k.key.dport) := hf (8, 39) (by decide) (by decide)
      obtain ⟨X40, y40, e9, r9⟩ := hf (9, 40) (by decide) (by decide)
      have R40 := Lib.hid r9
      clear r9
      have BD_ := Lib.hid BD_
      simp only [List.foldl_cons, List.foldl_nil, List.drop_succ_cons, List.drop_zero, hp, e0, e1, e2, e3, e4, e6, e7, e8, e9]
      clear hp e0 e1 e2 e3 e4 e6 e7 e8 e9 hf
      go_simp
      refine wpList_append_bd rfl BD_.out (.tmp 36) (.tmp 40) rfl rfl _ _ 2 _ (put16 k.key.dport) rfl rfl (RB.of_own R40.out) (by have h1 := HS1.out; have h2 := HS2.out; omega) (7 + L1 + L2) (by omega) ?_
      intro A_BE c_BE w_BE bd_BE
      have BE := Lib.hid bd_BE
      clear bd_BE
      clear R35 R40 BD_ BC
      go_wp2
      go_ret
      have HO2 := BE.out.out HE.out (by omega)
      rw [HK.out] at HO2
      exact ⟨A_BE, _, c_BE, rfl, HN.out, HO2.1, HO2.2⟩
end Go.Proofs.Ytmfkpiclpkeemaa

namespace Go.Proofs.Ytmfkpiclpkeemaa
set_option maxRecDepth 100000
open Go.RowKit

theorem ofIntT (a : Nat) (ha : a < 9223372036854775808) : (BitVec.ofInt 64 (a : Int)).toNat = a := by
  rw [BitVec.ofInt_natCast, BitVec.toNat_ofNat]
  exact Nat.mod_eq_of_lt (by omega)
theorem xor_nat (a b : Nat) (ha : a < 9223372036854775808) (hb : b < 9223372036854775808) : bits .xor .i64 (a : Int) (b : Int) = ((a ^^^ b : Nat) : Int) := by
  have hx : a ^^^ b < 2 ^ 63 := Nat.xor_lt_two_pow (by omega) (by omega)
  show IntKind.i64.wrap ((BitVec.ofInt 64 (a : Int) ^^^ BitVec.ofInt 64 (b : Int)).toNat : Int) = _
  rw [BitVec.toNat_xor, ofIntT a ha, ofIntT b hb, IntKind.wrap_i64]
  omega
theorem xor_step (H : Nat) (b : UInt8) (h : H < 4294967296) : bits .xor .i64 (H : Int) (b.toNat : Int) = ((H ^^^ b.toNat : Nat) : Int) := xor_nat H b.toNat (by omega) (by have := b.toNat_lt; omega)
theorem mix_int (X : Nat) (H : Nat) (b : UInt8) (h : H ^^^ b.toNat = X) : ((X * 16777619 % 4294967296 : Nat) : Int) = (mix H b : Int) := by rw [mix, h]
set_option maxHeartbeats 1000000 in
theorem hashS_0a (s : Int) (k : Fk) (w : World) (h1 : ¬ 0 ≤ s) : Calls Try.prog 20 #[.int .i64 s, .agg #[.int .i64 k.tenant, .int .i64 k.key.src.k, .int .i64 k.key.src.a, .int .i64 k.key.src.b, .int .i64 k.key.src.c, .int .i64 k.key.src.d, .int .i64 k.key.dst.k, .int .i64 k.key.dst.a, .int .i64 k.key.dst.b, .int .i64 k.key.dst.c, .int .i64 k.key.dst.d, .int .i64 k.key.proto, .int .i64 k.key.sport, .int .i64 k.key.dport]] w fun e w' => e = .returned (.int .i64 (hashOf s k)) ∧ Below w.heap.size w w' := by
  have HR := Lib.hid (hashOf_no1 (s := s) (k := k) (by simp [upTo, h1]))
  go_enter Try.func20, Try.ntmps20
  go_wp2
  go_ret
  exact ⟨ret_int HR.out.symm, by go_grown⟩

set_option maxHeartbeats 1000000 in
theorem hashS_0b (s : Int) (k : Fk) (w : World) (h0 : 0 ≤ s) (h1 : ¬ s ≤ 4294967295) : Calls Try.prog 20 #[.int .i64 s, .agg #[.int .i64 k.tenant, .int .i64 k.key.src.k, .int .i64 k.key.src.a, .int .i64 k.key.src.b, .int .i64 k.key.src.c, .int .i64 k.key.src.d, .int .i64 k.key.dst.k, .int .i64 k.key.dst.a, .int .i64 k.key.dst.b, .int .i64 k.key.dst.c, .int .i64 k.key.dst.d, .int .i64 k.key.proto, .int .i64 k.key.sport, .int .i64 k.key.dport]] w fun e w' => e = .returned (.int .i64 (hashOf s k)) ∧ Below w.heap.size w w' := by
  have HR := Lib.hid (hashOf_no1 (s := s) (k := k) (by simp [upTo, h1]))
  go_enter Try.func20, Try.ntmps20
  go_wp2
  go_ret
  exact ⟨ret_int HR.out.symm, by go_grown⟩

set_option maxHeartbeats 1000000 in
theorem hashS_1 (s : Int) (k : Fk) (w : World) (h1 : upTo s 4294967295 = true) (h2 : k.ok = false) : Calls Try.prog 20 #[.int .i64 s, .agg #[.int .i64 k.tenant, .int .i64 k.key.src.k, .int .i64 k.key.src.a, .int .i64 k.key.src.b, .int .i64 k.key.src.c, .int .i64 k.key.src.d, .int .i64 k.key.dst.k, .int .i64 k.key.dst.a, .int .i64 k.key.dst.b, .int .i64 k.key.dst.c, .int .i64 k.key.dst.d, .int .i64 k.key.proto, .int .i64 k.key.sport, .int .i64 k.key.dport]] w fun e w' => e = .returned (.int .i64 (hashOf s k)) ∧ Below w.heap.size w w' := by
  have HR := Lib.hid (hashOf_no2 (s := s) h2)
  have h1b := h1
  simp only [upTo, decide_eq_true_eq] at h1b
  obtain ⟨hlo, hhi⟩ := h1b
  have H1 := Lib.hid h1
  have H2 := Lib.hid h2
  have q0 := Lib.hid (K.new w (.cells #[.int .i64 k.tenant, .int .i64 k.key.src.k, .int .i64 k.key.src.a, .int .i64 k.key.src.b, .int .i64 k.key.src.c, .int .i64 k.key.src.d, .int .i64 k.key.dst.k, .int .i64 k.key.dst.a, .int .i64 k.key.dst.b, .int .i64 k.key.dst.c, .int .i64 k.key.dst.d, .int .i64 k.key.proto, .int .i64 k.key.sport, .int .i64 k.key.dport] 33))
  clear h1 h2
  go_enter Try.func20, Try.ntmps20
  go_wp2_with (with_reducible refine loadFk rfl _ rfl w.heap.size rfl q0.out ?_)
  refine Calls.mono (fkOkSB k false H2.out _) ?_
  rintro e w2 ⟨rfl, b2⟩
  have B2 := Lib.hid (bthen (Joins.below_alloc1 w _) b2)
  clear b2
  go_wp2
  go_ret
  exact ⟨ret_int HR.out.symm, B2.out⟩

set_option maxHeartbeats 2000000 in
theorem hashS_2 (s : Int) (k : Fk) (w : World) (h1 : upTo s 4294967295 = true) (h2 : k.ok = true) : Calls Try.prog 20 #[.int .i64 s, .agg #[.int .i64 k.tenant, .int .i64 k.key.src.k, .int .i64 k.key.src.a, .int .i64 k.key.src.b, .int .i64 k.key.src.c, .int .i64 k.key.src.d, .int .i64 k.key.dst.k, .int .i64 k.key.dst.a, .int .i64 k.key.dst.b, .int .i64 k.key.dst.c, .int .i64 k.key.dst.d, .int .i64 k.key.proto, .int .i64 k.key.sport, .int .i64 k.key.dport]] w fun e w' => e = .returned (.int .i64 (hashOf s k)) ∧ Below w.heap.size w w' := by
  have HR := Lib.hid (hashOf_yes h1 h2)
  have h1b := h1
  simp only [upTo, decide_eq_true_eq] at h1b
  obtain ⟨hlo, hhi⟩ := h1b
  have H1 := Lib.hid h1
  have H2 := Lib.hid h2
  have q0 := Lib.hid (K.new w (.cells #[.int .i64 k.tenant, .int .i64 k.key.src.k, .int .i64 k.key.src.a, .int .i64 k.key.src.b, .int .i64 k.key.src.c, .int .i64 k.key.src.d, .int .i64 k.key.dst.k, .int .i64 k.key.dst.a, .int .i64 k.key.dst.b, .int .i64 k.key.dst.c, .int .i64 k.key.dst.d, .int .i64 k.key.proto, .int .i64 k.key.sport, .int .i64 k.key.dport] 33))
  have HML := Lib.hid (fun bs => mixed_lt (s := s.toNat) (by omega) bs)
  clear h1 h2
  go_enter Try.func20, Try.ntmps20
  go_wp2_with (with_reducible refine loadFk rfl _ rfl w.heap.size rfl q0.out ?_)
  refine Calls.mono (fkOkSB k true H2.out _) ?_
  rintro e w2 ⟨rfl, b2⟩
  have q2 := Lib.hid (K.below b2 q0.out)
  have B2 := Lib.hid (bthen (Joins.below_alloc1 w _) b2)
  clear b2 q0
  go_wp2_with (with_reducible refine loadFk rfl _ rfl w.heap.size rfl q2.out ?_)
  refine Calls.mono (keyBytesS k H2.out _) ?_
  rintro e w3 ⟨D, n, d, rfl, hn, o3, b3⟩
  have R3 := Lib.hid (RB.of_own o3)
  have B3 := Lib.hid (bthen B2.out b3)
  have hn39 : n ≤ 39 := by rw [hn]; exact Fk.short k
  have HN := Lib.hid hn
  obtain ⟨bs, hbs⟩ : ∃ bs, k.bytes = bs := ⟨_, rfl⟩
  rw [hbs] at R3 HN
  have HBS := Lib.hid hbs
  clear o3 b3 q2 B2 hn hbs
  go_wp2
  go_loop [5, 7] (fun h i => ∃ j : Nat, j ≤ n ∧ i = .int .i64 j ∧ h = .int .i64 ((mixed s.toNat (bs.take j) : Nat) : Int)) (fun _ i => n - (intOf i).toNat)
  case atStart => exact ⟨0, Nat.zero_le _, rfl, by rw [List.take_zero]; show Value.int .i64 s = .int .i64 ((s.toNat : Nat) : Int); rw [Int.toNat_of_nonneg hlo]⟩
  case round =>
    obtain ⟨j, hj, rfl, rfl⟩ := hrel
    by_cases hlt : j < n
    · have hj1 : j < bs.length := by rw [← HN.out]; exact hlt
      obtain ⟨g, o, rfl, hg, hc⟩ := R3.out.at_ hj1
      have HT := Lib.hid (show mixed s.toNat (bs.take (j + 1)) = mix (mixed s.toNat (bs.take j)) bs[j] by rw [take_snoc bs j hj1, mixed_snoc])
      have hlt32 := HML.out (bs.take j)
      generalize bs[j] = b at *
      generalize mixed s.toNat (bs.take j) = H at *
      have hx1 := xor_step H b hlt32
      have hb8 := b.toNat_lt
      have hX := xor_lt hlt32 (show b.toNat < 4294967296 by omega)
      have hM := mix_int _ H b rfl
      generalize H ^^^ b.toNat = X at *
      have HM := Lib.hid hM
      clear hM hg
      have hw : IntKind.i64.wrap ((X : Int) * 16777619) = (X : Int) * 16777619 := by rw [IntKind.wrap_i64]; omega
      have ht : ((X : Int) * 16777619).tmod 4294967296 = ((X * 16777619 % 4294967296 : Nat) : Int) := by rw [Int.tmod_eq_emod_of_nonneg (by omega)]; omega
      go_wp2
      go_round
      case rel => exact ⟨j + 1, by omega, by go_num, ret_eq (by rw [HT.out, ← HM.out]; omega)⟩
      case measure => simp [intOf]; omega
    · obtain rfl : j = n := by omega
      have HF := Lib.hid (show fin32 (mixed s.toNat (bs.take j)) = hashN s k by rw [List.take_of_length_le (by rw [← HN.out]; exact Nat.le_refl _), hashN, HBS.out])
      have hlt32 := HML.out (bs.take j)
      generalize mixed s.toNat (bs.take j) = H at *
      have hx2 := xor_nat H (H / 65536) (by omega) (by omega)
      have HF2 := Lib.hid (show H ^^^ (H / 65536) = hashN s k from HF.out)
      have hd : (H : Int).tdiv 65536 = ((H / 65536 : Nat) : Int) := by rw [Int.tdiv_eq_ediv_of_nonneg (by omega)]; omega
      have hd2 : (H : Int) / 65536 = ((H / 65536 : Nat) : Int) := by omega
      generalize H ^^^ (H / 65536) = Z at *
      have hQ : H / 65536 ≤ 65535 := by omega
      generalize H / 65536 = Q at *
      clear HF
      go_wp2
      go_ret
      exact ⟨ret_int (by rw [HR.out, ← HF2.out]), B3.out⟩

theorem hashS (s : Int) (k : Fk) (w : World) : Calls Try.prog 20 #[.int .i64 s, .agg #[.int .i64 k.tenant, .int .i64 k.key.src.k, .int .i64 k.key.src.a, .int .i64 k.key.src.b, .int .i64 k.key.src.c, .int .i64 k.key.src.d, .int .i64 k.key.dst.k, .int .i64 k.key.dst.a, .int .i64 k.key.dst.b, .int .i64 k.key.dst.c, .int .i64 k.key.dst.d, .int .i64 k.key.proto, .int .i64 k.key.sport, .int .i64 k.key.dport]] w fun e w' => e = .returned (.int .i64 (hashOf s k)) ∧ Below w.heap.size w w' := by
  cases h1 : upTo s 4294967295 with
  | false =>
    by_cases h0 : 0 ≤ s
    · exact hashS_0b s k w h0 (fun h => by simp [upTo, h0, h] at h1)
    · exact hashS_0a s k w h0
  | true =>
    cases h2 : k.ok with
    | false => exact hashS_1 s k w h1 h2
    | true => exact hashS_2 s k w h1 h2
theorem hashSB (s : Int) (k : Fk) (H : Int) (h : hashOf s k = H) (w : World) : Calls Try.prog 20 #[.int .i64 s, .agg #[.int .i64 k.tenant, .int .i64 k.key.src.k, .int .i64 k.key.src.a, .int .i64 k.key.src.b, .int .i64 k.key.src.c, .int .i64 k.key.src.d, .int .i64 k.key.dst.k, .int .i64 k.key.dst.a, .int .i64 k.key.dst.b, .int .i64 k.key.dst.c, .int .i64 k.key.dst.d, .int .i64 k.key.proto, .int .i64 k.key.sport, .int .i64 k.key.dport]] w fun e w' => e = .returned (.int .i64 H) ∧ Below w.heap.size w w' := h ▸ hashS s k w
end Go.Proofs.Ytmfkpiclpkeemaa

namespace Go.Proofs.Ytmfkpiclpkeemaa
set_option maxRecDepth 100000
open Go.RowKit

set_option maxHeartbeats 1000000 in
theorem hashI_0 (s : Int) (k : Fk) (w : World) (h1 : upTo s 4294967295 = false) : Calls Try.prog 21 #[.int .i64 s, .agg #[.int .i64 k.tenant, .int .i64 k.key.src.k, .int .i64 k.key.src.a, .int .i64 k.key.src.b, .int .i64 k.key.src.c, .int .i64 k.key.src.d, .int .i64 k.key.dst.k, .int .i64 k.key.dst.a, .int .i64 k.key.dst.b, .int .i64 k.key.dst.c, .int .i64 k.key.dst.d, .int .i64 k.key.proto, .int .i64 k.key.sport, .int .i64 k.key.dport]] w fun e w' => e = .returned (.int .i64 (hashOf s k)) ∧ Below w.heap.size w w' := by
  have HR := Lib.hid (hashOf_no1 (k := k) h1)
  have H1 := Lib.hid h1
  clear h1
  go_enter Try.func21, Try.ntmps21
  go_wp2_with fail
  refine Calls.mono (ruleW 0 s 4294967295 false H1.out _) ?_
  rintro e w1 ⟨rfl, b1⟩
  have B1 := Lib.hid (bthen (Joins.below_alloc1 w _) b1)
  clear b1
  go_wp2
  go_ret
  exact ⟨ret_int HR.out.symm, B1.out⟩

set_option maxHeartbeats 1000000 in
theorem hashI_1 (s : Int) (k : Fk) (w : World) (h1 : upTo s 4294967295 = true) (h2 : k.ok = false) : Calls Try.prog 21 #[.int .i64 s, .agg #[.int .i64 k.tenant, .int .i64 k.key.src.k, .int .i64 k.key.src.a, .int .i64 k.key.src.b, .int .i64 k.key.src.c, .int .i64 k.key.src.d, .int .i64 k.key.dst.k, .int .i64 k.key.dst.a, .int .i64 k.key.dst.b, .int .i64 k.key.dst.c, .int .i64 k.key.dst.d, .int .i64 k.key.proto, .int .i64 k.key.sport, .int .i64 k.key.dport]] w fun e w' => e = .returned (.int .i64 (hashOf s k)) ∧ Below w.heap.size w w' := by
  have HR := Lib.hid (hashOf_no2 (s := s) h2)
  have h1b := h1
  simp only [upTo, decide_eq_true_eq] at h1b
  obtain ⟨hlo, hhi⟩ := h1b
  have H1 := Lib.hid h1
  have H2 := Lib.hid h2
  have q0 := Lib.hid (K.new w (.cells #[.int .i64 k.tenant, .int .i64 k.key.src.k, .int .i64 k.key.src.a, .int .i64 k.key.src.b, .int .i64 k.key.src.c, .int .i64 k.key.src.d, .int .i64 k.key.dst.k, .int .i64 k.key.dst.a, .int .i64 k.key.dst.b, .int .i64 k.key.dst.c, .int .i64 k.key.dst.d, .int .i64 k.key.proto, .int .i64 k.key.sport, .int .i64 k.key.dport] 33))
  clear h1 h2
  go_enter Try.func21, Try.ntmps21
  go_wp2_with fail
  refine Calls.mono (ruleW 0 s 4294967295 true H1.out _) ?_
  rintro e w1 ⟨rfl, b1⟩
  have q1 := Lib.hid (K.below b1 q0.out)
  have B1 := Lib.hid (bthen (Joins.below_alloc1 w _) b1)
  clear b1 q0
  obtain ⟨z0, z1, z2, z3, z4, z5, z6, z7, z8, z9, z10, z11, z12, z13⟩ := K.fk q1.out
  go_wp2_with (with_reducible refine loadFk rfl _ rfl w.heap.size rfl q1.out ?_)
  refine Calls.mono (fkOkIB k false H2.out _) ?_
  rintro e w2 ⟨rfl, b2⟩
  have B2 := Lib.hid (bthen B1.out b2)
  clear b2
  try clear z0 z1 z2 z3 z4 z5 z6 z7 z8 z9 z10 z11 z12 z13
  go_wp2
  go_ret
  exact ⟨ret_int HR.out.symm, B2.out⟩

set_option maxHeartbeats 2000000 in
theorem hashI_2 (s : Int) (k : Fk) (w : World) (h1 : upTo s 4294967295 = true) (h2 : k.ok = true) : Calls Try.prog 21 #[.int .i64 s, .agg #[.int .i64 k.tenant, .int .i64 k.key.src.k, .int .i64 k.key.src.a, .int .i64 k.key.src.b, .int .i64 k.key.src.c, .int .i64 k.key.src.d, .int .i64 k.key.dst.k, .int .i64 k.key.dst.a, .int .i64 k.key.dst.b, .int .i64 k.key.dst.c, .int .i64 k.key.dst.d, .int .i64 k.key.proto, .int .i64 k.key.sport, .int .i64 k.key.dport]] w fun e w' => e = .returned (.int .i64 (hashOf s k)) ∧ Below w.heap.size w w' := by
  have HR := Lib.hid (hashOf_yes h1 h2)
  have h1b := h1
  simp only [upTo, decide_eq_true_eq] at h1b
  obtain ⟨hlo, hhi⟩ := h1b
  have H1 := Lib.hid h1
  have H2 := Lib.hid h2
  have q0 := Lib.hid (K.new w (.cells #[.int .i64 k.tenant, .int .i64 k.key.src.k, .int .i64 k.key.src.a, .int .i64 k.key.src.b, .int .i64 k.key.src.c, .int .i64 k.key.src.d, .int .i64 k.key.dst.k, .int .i64 k.key.dst.a, .int .i64 k.key.dst.b, .int .i64 k.key.dst.c, .int .i64 k.key.dst.d, .int .i64 k.key.proto, .int .i64 k.key.sport, .int .i64 k.key.dport] 33))
  have HML := Lib.hid (fun bs => mixed_lt (s := s.toNat) (by omega) bs)
  clear h1 h2
  go_enter Try.func21, Try.ntmps21
  go_wp2_with fail
  refine Calls.mono (ruleW 0 s 4294967295 true H1.out _) ?_
  rintro e w1 ⟨rfl, b1⟩
  have q1 := Lib.hid (K.below b1 q0.out)
  have B1 := Lib.hid (bthen (Joins.below_alloc1 w _) b1)
  clear b1 q0
  obtain ⟨z0, z1, z2, z3, z4, z5, z6, z7, z8, z9, z10, z11, z12, z13⟩ := K.fk q1.out
  go_wp2_with (with_reducible refine loadFk rfl _ rfl w.heap.size rfl q1.out ?_)
  refine Calls.mono (fkOkIB k true H2.out _) ?_
  rintro e w2 ⟨rfl, b2⟩
  have q2 := Lib.hid (K.below b2 q1.out)
  have B2 := Lib.hid (bthen B1.out b2)
  clear b2 q1
  try clear z0 z1 z2 z3 z4 z5 z6 z7 z8 z9 z10 z11 z12 z13
  go_wp2_with (with_reducible refine loadFk rfl _ rfl w.heap.size rfl q2.out ?_)
  refine Calls.mono (keyBytesI k H2.out _) ?_
  rintro e w3 ⟨D, n, d, rfl, hn, o3, b3⟩
  have R3 := Lib.hid (RB.of_own o3)
  have B3 := Lib.hid (bthen B2.out b3)
  have hn39 : n ≤ 39 := by rw [hn]; exact Fk.short k
  have HN := Lib.hid hn
  obtain ⟨bs, hbs⟩ : ∃ bs, k.bytes = bs := ⟨_, rfl⟩
  rw [hbs] at R3 HN
  have HBS := Lib.hid hbs
  clear o3 b3 q2 B2 hn hbs
  go_wp2
  go_loop [5, 20] (fun h i => ∃ j : Nat, j ≤ n ∧ i = .int .i64 j ∧ h = .int .i64 ((mixed s.toNat (bs.take j) : Nat) : Int)) (fun _ i => n - (intOf i).toNat)
  case atStart => exact ⟨0, Nat.zero_le _, rfl, by rw [List.take_zero]; show Value.int .i64 s = .int .i64 ((s.toNat : Nat) : Int); rw [Int.toNat_of_nonneg hlo]⟩
  case round =>
    obtain ⟨j, hj, rfl, rfl⟩ := hrel
    by_cases hlt : j < n
    · have hj1 : j < bs.length := by rw [← HN.out]; exact hlt
      obtain ⟨g, o, rfl, hg, hc⟩ := R3.out.at_ hj1
      have HT := Lib.hid (show mixed s.toNat (bs.take (j + 1)) = mix (mixed s.toNat (bs.take j)) bs[j] by rw [take_snoc bs j hj1, mixed_snoc])
      have hlt32 := HML.out (bs.take j)
      generalize bs[j] = b at *
      generalize mixed s.toNat (bs.take j) = H at *
      have hx1 := xor_step H b hlt32
      have hb8 := b.toNat_lt
      have hX := xor_lt hlt32 (show b.toNat < 4294967296 by omega)
      have hM := mix_int _ H b rfl
      generalize H ^^^ b.toNat = X at *
      have HM := Lib.hid hM
      clear hM hg
      have hw : IntKind.i64.wrap ((X : Int) * 16777619) = (X : Int) * 16777619 := by rw [IntKind.wrap_i64]; omega
      have ht : ((X : Int) * 16777619).tmod 4294967296 = ((X * 16777619 % 4294967296 : Nat) : Int) := by rw [Int.tmod_eq_emod_of_nonneg (by omega)]; omega
      go_wp2
      go_round
      case rel => exact ⟨j + 1, by omega, by go_num, ret_eq (by rw [HT.out, ← HM.out]; omega)⟩
      case measure => simp [intOf]; omega
    · obtain rfl : j = n := by omega
      have HF := Lib.hid (show fin32 (mixed s.toNat (bs.take j)) = hashN s k by rw [List.take_of_length_le (by rw [← HN.out]; exact Nat.le_refl _), hashN, HBS.out])
      have hlt32 := HML.out (bs.take j)
      generalize mixed s.toNat (bs.take j) = H at *
      have hx2 := xor_nat H (H / 65536) (by omega) (by omega)
      have HF2 := Lib.hid (show H ^^^ (H / 65536) = hashN s k from HF.out)
      have hd : (H : Int).tdiv 65536 = ((H / 65536 : Nat) : Int) := by rw [Int.tdiv_eq_ediv_of_nonneg (by omega)]; omega
      have hd2 : (H : Int) / 65536 = ((H / 65536 : Nat) : Int) := by omega
      generalize H ^^^ (H / 65536) = Z at *
      have hQ : H / 65536 ≤ 65535 := by omega
      generalize H / 65536 = Q at *
      clear HF
      go_wp2
      go_ret
      exact ⟨ret_int (by rw [HR.out, ← HF2.out]), B3.out⟩

theorem hashI (s : Int) (k : Fk) (w : World) : Calls Try.prog 21 #[.int .i64 s, .agg #[.int .i64 k.tenant, .int .i64 k.key.src.k, .int .i64 k.key.src.a, .int .i64 k.key.src.b, .int .i64 k.key.src.c, .int .i64 k.key.src.d, .int .i64 k.key.dst.k, .int .i64 k.key.dst.a, .int .i64 k.key.dst.b, .int .i64 k.key.dst.c, .int .i64 k.key.dst.d, .int .i64 k.key.proto, .int .i64 k.key.sport, .int .i64 k.key.dport]] w fun e w' => e = .returned (.int .i64 (hashOf s k)) ∧ Below w.heap.size w w' := by
  cases h1 : upTo s 4294967295 with
  | false => exact hashI_0 s k w h1
  | true =>
    cases h2 : k.ok with
    | false => exact hashI_1 s k w h1 h2
    | true => exact hashI_2 s k w h1 h2
theorem hashIB (s : Int) (k : Fk) (H : Int) (h : hashOf s k = H) (w : World) : Calls Try.prog 21 #[.int .i64 s, .agg #[.int .i64 k.tenant, .int .i64 k.key.src.k, .int .i64 k.key.src.a, .int .i64 k.key.src.b, .int .i64 k.key.src.c, .int .i64 k.key.src.d, .int .i64 k.key.dst.k, .int .i64 k.key.dst.a, .int .i64 k.key.dst.b, .int .i64 k.key.dst.c, .int .i64 k.key.dst.d, .int .i64 k.key.proto, .int .i64 k.key.sport, .int .i64 k.key.dport]] w fun e w' => e = .returned (.int .i64 H) ∧ Below w.heap.size w w' := h ▸ hashI s k w
end Go.Proofs.Ytmfkpiclpkeemaa

namespace Go.Proofs.Ytmfkpiclpkeemaa
set_option maxRecDepth 100000
open Go.RowKit

theorem info_tb : (Try.prog.info? 40).map (·.size) = some 2 := by kernel_rfl

section
variable {o : Oper} {a : Act} {w : World} {K : Act → World → Prop} {Q : Exit → Act → World → Prop}
theorem f_tab0 (x : Operand) (g : Nat) (ho : o.op = .fieldAddr 40 x 0) (hx : a.eval x = .pointer (some ⟨g, 0, none⟩)) (hK : K (a.put o.dst (.pointer (some ⟨g, 0, none⟩))) w) : o.wp Try.prog a w K Q := by
  unfold Oper.wp execOp
  simp only [ho, hx]
  go_simp
  exact hK
theorem f_tab1 (x : Operand) (g : Nat) (ho : o.op = .fieldAddr 40 x 1) (hx : a.eval x = .pointer (some ⟨g, 0, none⟩)) (hK : K (a.put o.dst (.pointer (some ⟨g, 1, none⟩))) w) : o.wp Try.prog a w K Q := by
  unfold Oper.wp execOp
  simp only [ho, hx]
  go_simp
  exact hK
theorem f_ce0 (x : Operand) (g of : Nat) (ho : o.op = .fieldAddr 93 x 0) (hx : a.eval x = .pointer (some ⟨g, of, none⟩)) (hK : K (a.put o.dst (.pointer (some ⟨g, of, none⟩))) w) : o.wp Try.prog a w K Q := by
  unfold Oper.wp execOp
  simp only [ho, hx]
  go_simp
  exact hK
theorem f_ce1 (x : Operand) (g of : Nat) (ho : o.op = .fieldAddr 93 x 1) (hx : a.eval x = .pointer (some ⟨g, of, none⟩)) (hK : K (a.put o.dst (.pointer (some ⟨g, of + 1, none⟩))) w) : o.wp Try.prog a w K Q := by
  unfold Oper.wp execOp
  simp only [ho, hx]
  go_simp
  exact hK
theorem f_ce2 (x : Operand) (g of : Nat) (ho : o.op = .fieldAddr 93 x 2) (hx : a.eval x = .pointer (some ⟨g, of, none⟩)) (hK : K (a.put o.dst (.pointer (some ⟨g, of + 15, none⟩))) w) : o.wp Try.prog a w K Q := by
  unfold Oper.wp execOp
  simp only [ho, hx]
  go_simp
  exact hK
theorem t_sl (x : Operand) (g j : Nat) (v : Value) (ho : o.op = .load 38 x) (hx : a.eval x = .pointer (some ⟨g, j, none⟩)) (hc : w.cell? ⟨g, j, none⟩ = some v) (hK : K (a.put o.dst v) w) : o.wp Try.prog a w K Q := by
  unfold Oper.wp execOp
  simp only [ho, hx]
  go_simp
  exact hK
theorem t_bool (x : Operand) (g j : Nat) (v : Value) (ho : o.op = .load 4 x) (hx : a.eval x = .pointer (some ⟨g, j, none⟩)) (hc : w.cell? ⟨g, j, none⟩ = some v) (hK : K (a.put o.dst v) w) : o.wp Try.prog a w K Q := by
  unfold Oper.wp execOp
  simp only [ho, hx]
  go_simp
  exact hK
theorem t_not (x : Operand) (b : Bool) (ho : o.op = .unOp .not 4 x) (hx : a.eval x = .bool b) (hK : K (a.put o.dst (.bool (!b))) w) : o.wp Try.prog a w K Q := by
  unfold Oper.wp execOp
  simp only [ho, hx]
  go_simp
  exact hK
theorem t_len (x : Operand) (A : Option Addr) (n c : Nat) (ho : o.op = .call { callee := .builtin .len, args := #[x], argTypes := #[38] }) (hx : a.eval x = .slice A n c) (hK : K (a.put o.dst (.int .i64 (n : Int))) w) : o.wp Try.prog a w K Q := by
  unfold Oper.wp execOp
  simp only [ho, resolve, invoke, builtin, List.map_toArray, List.map_cons, List.map_nil, hx]
  go_simp
  exact hK
theorem r_fk (x : Operand) (g : Nat) (r : Fk) (ho : o.op = .load 33 x) (hx : a.eval x = .pointer (some ⟨g, 0, none⟩)) {t : TypeId} (hg : w.heap[g]? = some (.cells #[.int .i64 r.tenant, .int .i64 r.key.src.k, .int .i64 r.key.src.a, .int .i64 r.key.src.b, .int .i64 r.key.src.c, .int .i64 r.key.src.d, .int .i64 r.key.dst.k, .int .i64 r.key.dst.a, .int .i64 r.key.dst.b, .int .i64 r.key.dst.c, .int .i64 r.key.dst.d, .int .i64 r.key.proto, .int .i64 r.key.sport, .int .i64 r.key.dport] t (0, 0))) (hK : K (a.put o.dst (.agg #[.int .i64 r.tenant, .int .i64 r.key.src.k, .int .i64 r.key.src.a, .int .i64 r.key.src.b, .int .i64 r.key.src.c, .int .i64 r.key.src.d, .int .i64 r.key.dst.k, .int .i64 r.key.dst.a, .int .i64 r.key.dst.b, .int .i64 r.key.dst.c, .int .i64 r.key.dst.d, .int .i64 r.key.proto, .int .i64 r.key.sport, .int .i64 r.key.dport])) w) : o.wp Try.prog a w K Q :=
  wp_load_row 33 x ho g hx t _ (0, 0) _ hg Try.underlying33 rfl info_fk hK
theorem r_tab (x : Operand) (g : Nat) (v0 v1 : Value) (ho : o.op = .load 40 x) (hx : a.eval x = .pointer (some ⟨g, 0, none⟩)) {t : TypeId} (hg : w.heap[g]? = some (.cells #[v0, v1] t (0, 0))) (hK : K (a.put o.dst (.agg #[v0, v1])) w) : o.wp Try.prog a w K Q :=
  wp_load_row 40 x ho g hx t _ (0, 0) _ hg Try.underlying40 rfl info_tb hK
theorem u_hashI (x y : Operand) (x0 x1 : Value) (ts : Array TypeId) (ho : o.op = .call { callee := .value (.func 21), args := #[x, y], argTypes := ts }) (h0 : a.eval x = x0) (h1 : a.eval y = x1)
    (h : Calls Try.prog 21 #[x0, x1] w fun e w' => ∃ v, e = .returned v ∧ K (a.put o.dst v) w') : o.wp Try.prog a w K Q := by
  unfold Oper.wp execOp
  simp only [ho, resolve, List.map_toArray, List.map_cons, List.map_nil, h0, h1, show ∀ f, a.eval (.func f) = .func (.func f) #[] #[] from fun _ => rfl]
  go_simp
  exact h.mono fun e w' ⟨u, he, hk⟩ => by subst he; exact hk
theorem u_hashS (x y : Operand) (x0 x1 : Value) (ts : Array TypeId) (ho : o.op = .call { callee := .value (.func 20), args := #[x, y], argTypes := ts }) (h0 : a.eval x = x0) (h1 : a.eval y = x1)
    (h : Calls Try.prog 20 #[x0, x1] w fun e w' => ∃ v, e = .returned v ∧ K (a.put o.dst v) w') : o.wp Try.prog a w K Q := by
  unfold Oper.wp execOp
  simp only [ho, resolve, List.map_toArray, List.map_cons, List.map_nil, h0, h1, show ∀ f, a.eval (.func f) = .func (.func f) #[] #[] from fun _ => rfl]
  go_simp
  exact h.mono fun e w' ⟨u, he, hk⟩ => by subst he; exact hk
theorem u_probed (x y : Operand) (x0 x1 : Value) (ts : Array TypeId) (ho : o.op = .call { callee := .value (.func 79), args := #[x, y], argTypes := ts }) (h0 : a.eval x = x0) (h1 : a.eval y = x1)
    (h : Calls Try.prog 79 #[x0, x1] w fun e w' => ∃ v, e = .returned v ∧ K (a.put o.dst v) w') : o.wp Try.prog a w K Q := by
  unfold Oper.wp execOp
  simp only [ho, resolve, List.map_toArray, List.map_cons, List.map_nil, h0, h1, show ∀ f, a.eval (.func f) = .func (.func f) #[] #[] from fun _ => rfl]
  go_simp
  exact h.mono fun e w' ⟨u, he, hk⟩ => by subst he; exact hk
theorem u_withinI (x y z : Operand) (x0 x1 x2 : Value) (ts : Array TypeId) (ho : o.op = .call { callee := .value (.func 63), args := #[x, y, z], argTypes := ts }) (h0 : a.eval x = x0) (h1 : a.eval y = x1) (h2 : a.eval z = x2)
    (h : Calls Try.prog 63 #[x0, x1, x2] w fun e w' => ∃ v, e = .returned v ∧ K (a.put o.dst v) w') : o.wp Try.prog a w K Q := by
  unfold Oper.wp execOp
  simp only [ho, resolve, List.map_toArray, List.map_cons, List.map_nil, h0, h1, h2, show ∀ f, a.eval (.func f) = .func (.func f) #[] #[] from fun _ => rfl]
  go_simp
  exact h.mono fun e w' ⟨u, he, hk⟩ => by subst he; exact hk
theorem u_sizeOk (x : Operand) (x0 : Value) (ts : Array TypeId) (ho : o.op = .call { callee := .value (.func 67), args := #[x], argTypes := ts }) (h0 : a.eval x = x0)
    (h : Calls Try.prog 67 #[x0] w fun e w' => ∃ v, e = .returned v ∧ K (a.put o.dst v) w') : o.wp Try.prog a w K Q := by
  unfold Oper.wp execOp
  simp only [ho, resolve, List.map_toArray, List.map_cons, List.map_nil, h0, show ∀ f, a.eval (.func f) = .func (.func f) #[] #[] from fun _ => rfl]
  go_simp
  exact h.mono fun e w' ⟨u, he, hk⟩ => by subst he; exact hk
theorem u_usedIn (x : Operand) (x0 : Value) (ts : Array TypeId) (ho : o.op = .call { callee := .value (.func 76), args := #[x], argTypes := ts }) (h0 : a.eval x = x0)
    (h : Calls Try.prog 76 #[x0] w fun e w' => ∃ v, e = .returned v ∧ K (a.put o.dst v) w') : o.wp Try.prog a w K Q := by
  unfold Oper.wp execOp
  simp only [ho, resolve, List.map_toArray, List.map_cons, List.map_nil, h0, show ∀ f, a.eval (.func f) = .func (.func f) #[] #[] from fun _ => rfl]
  go_simp
  exact h.mono fun e w' ⟨u, he, hk⟩ => by subst he; exact hk
theorem u_roomOf (x : Operand) (x0 : Value) (ts : Array TypeId) (ho : o.op = .call { callee := .value (.func 77), args := #[x], argTypes := ts }) (h0 : a.eval x = x0)
    (h : Calls Try.prog 77 #[x0] w fun e w' => ∃ v, e = .returned v ∧ K (a.put o.dst v) w') : o.wp Try.prog a w K Q := by
  unfold Oper.wp execOp
  simp only [ho, resolve, List.map_toArray, List.map_cons, List.map_nil, h0, show ∀ f, a.eval (.func f) = .func (.func f) #[] #[] from fun _ => rfl]
  go_simp
  exact h.mono fun e w' ⟨u, he, hk⟩ => by subst he; exact hk
end
end Go.Proofs.Ytmfkpiclpkeemaa

namespace Go.Proofs.Ytmfkpiclpkeemaa
set_option maxRecDepth 100000
open Go.RowKit

def SureT (s : Int) (cs : List Ce) (i : Nat) : Prop := Sure Ce.used Ce.key (homeOf s cs.length) cs.length (ceAt cs) i
theorem tabOk_iff {s : Int} {cs : List Ce} : tabOk s cs = true ↔ upTo s 4294967295 = true ∧ sizeOk cs.length = true ∧ 4 * usedN cs ≤ 3 * cs.length ∧ ∀ i, i < cs.length → (ceAt cs i).fits = true ∧ ((ceAt cs i).used = true → SureT s cs i) := by
  constructor
  · intro h
    obtain ⟨h1, h2, h3, h4⟩ := tabOk_parts h
    refine ⟨h1, h2, by omega, fun i hi => ⟨tab_fits h hi, fun hu => good_iff_sure.1 (tab_good h) i hi hu⟩⟩
  · rintro ⟨h1, h2, h3, h4⟩
    have g := good_iff_sure.2 (fun i hi hu => (h4 i hi).2 hu)
    refine tabOk_yes h1 h2 (by rw [sizeOk_iff] at h2; omega) fun i hi => ?_
    simp only [cellFine, (h4 i hi).1, Bool.true_and, Bool.or_eq_true, Bool.not_eq_true', decide_eq_true_eq]
    cases hu : (ceAt cs i).used with
    | false => exact .inl rfl
    | true => exact .inr (g i hi hu)
theorem tabOk_bad {s : Int} {cs : List Ce} {i : Nat} (hi : i < cs.length) (h : ¬ ((ceAt cs i).fits = true ∧ ((ceAt cs i).used = true → SureT s cs i))) : tabOk s cs = false := by
  cases e : tabOk s cs with
  | false => rfl
  | true => exact absurd ((tabOk_iff.1 e).2.2.2 i hi) h
theorem tabOk_full {s : Int} {cs : List Ce} (h : ¬ 4 * usedN cs ≤ 3 * cs.length) : tabOk s cs = false := by
  cases e : tabOk s cs with
  | false => rfl
  | true => exact absurd (tabOk_iff.1 e).2.2.1 h
theorem idx_place {cs : List Ce} {k : Fk} {i : Nat} (h : idx (placeT cs k) = (i : Int)) : placeT cs k = some i := by
  cases e : placeT cs k with
  | none => rw [e] at h; simp only [idx] at h; omega
  | some p => rw [e] at h; simp only [idx] at h; rw [Int.ofNat_inj.1 h]
theorem idx_probe {s : Int} {cs : List Ce} {k : Fk} {i : Nat} (h : idx (probeT s cs k) = (i : Int)) : probeT s cs k = some i := by
  cases e : probeT s cs k with
  | none => rw [e] at h; simp only [idx] at h; omega
  | some p => rw [e] at h; simp only [idx] at h; rw [Int.ofNat_inj.1 h]
theorem sure_place {s : Int} {cs : List Ce} {i : Nat} (h : SureT s cs i) : idx (placeT cs (ceAt cs i).key) = (i : Int) := by
  have : placeT cs (ceAt cs i).key = some i := h.1
  rw [this]
  rfl
theorem cellFine_yes {s : Int} {cs : List Ce} {i : Nat} (hf : (ceAt cs i).fits = true) (h : (ceAt cs i).used = false ∨ probeT s cs (ceAt cs i).key = some i) : cellFine s cs i = true := by
  simp only [cellFine, hf, Bool.true_and, Bool.or_eq_true, Bool.not_eq_true', decide_eq_true_eq]
  exact h
theorem cellFine_no1 {s : Int} {cs : List Ce} {i : Nat} (hf : (ceAt cs i).fits = false) : cellFine s cs i = false := by simp [cellFine, hf]
theorem cellFine_no2 {s : Int} {cs : List Ce} {i : Nat} (hu : (ceAt cs i).used = true) (h : ¬ probeT s cs (ceAt cs i).key = some i) : cellFine s cs i = false := by simp [cellFine, hu, h]
end Go.Proofs.Ytmfkpiclpkeemaa

namespace Go.Proofs.Ytmfkpiclpkeemaa
set_option maxRecDepth 100000
open Go.RowKit

theorem take_all {α : Type} {l : List α} {n : Nat} (h : l.length = n) : l.take n = l := List.take_of_length_le (by omega)
theorem modP (H j n : Nat) : ((H : Int) + (j : Int)).tmod (n : Int) = (((H % n + j) % n : Nat) : Int) := by
  rw [Int.tmod_eq_emod_of_nonneg (by omega), Nat.mod_add_mod]
  first | (simp; done) | omega

set_option maxHeartbeats 1000000 in
theorem sizeOkI (n : Nat) (w : World) : Calls Try.prog 67 #[.int .i64 (n : Int)] w fun e w' => e = .returned (.bool (sizeOk n)) ∧ Below w.heap.size w w' := by
  by_cases h4 : n = 4
  · subst h4
    go_enter Try.func67, Try.ntmps67
    go_wp2
    go_ret
    exact ⟨rfl, by go_grown⟩
  by_cases h8 : n = 8
  · subst h8
    go_enter Try.func67, Try.ntmps67
    go_wp2
    go_ret
    exact ⟨rfl, by go_grown⟩
  by_cases h16 : n = 16
  · subst h16
    go_enter Try.func67, Try.ntmps67
    go_wp2
    go_ret
    exact ⟨rfl, by go_grown⟩
  by_cases h32 : n = 32
  · subst h32
    go_enter Try.func67, Try.ntmps67
    go_wp2
    go_ret
    exact ⟨rfl, by go_grown⟩
  by_cases h64 : n = 64
  · subst h64
    go_enter Try.func67, Try.ntmps67
    go_wp2
    go_ret
    exact ⟨rfl, by go_grown⟩
  have HR : Hid (sizeOk n = false) := Lib.hid (by
    cases h : sizeOk n with
    | false => rfl
    | true => rw [sizeOk_iff] at h; omega)
  have g4 : ((n : Int) == 4) = false := beq_false_of_ne (by omega)
  have g8 : ((n : Int) == 8) = false := beq_false_of_ne (by omega)
  have g16 : ((n : Int) == 16) = false := beq_false_of_ne (by omega)
  have g32 : ((n : Int) == 32) = false := beq_false_of_ne (by omega)
  have g64 : ((n : Int) == 64) = false := beq_false_of_ne (by omega)
  clear h4 h8 h16 h32 h64
  go_enter Try.func67, Try.ntmps67
  go_wp2
  go_ret
  exact ⟨ret_bool HR.out.symm, by go_grown⟩
theorem sizeOkIB (n : Nat) (b : Bool) (h : sizeOk n = b) (w : World) : Calls Try.prog 67 #[.int .i64 (n : Int)] w fun e w' => e = .returned (.bool b) ∧ Below w.heap.size w w' := h ▸ sizeOkI n w

set_option maxHeartbeats 1000000 in
theorem roomOfI (s : Int) (A : Option Addr) (n c : Nat) (w : World) (hn : n ≤ 1048576) : Calls Try.prog 77 #[.agg #[.int .i64 s, .slice A n c]] w fun e w' => e = .returned (.int .i64 ((n / 4 * 3 : Nat) : Int)) ∧ Below w.heap.size w w' := by
  have hd : (n : Int).tdiv 4 = ((n / 4 : Nat) : Int) := by rw [Int.tdiv_eq_ediv_of_nonneg (by omega)]; omega
  have hd2 : (n : Int) / 4 = ((n / 4 : Nat) : Int) := by omega
  have HQ := Lib.hid (show ((n / 4 : Nat) : Int) * 3 = ((n / 4 * 3 : Nat) : Int) by omega)
  have hq : n / 4 ≤ 1048576 := by omega
  generalize n / 4 * 3 = R at *
  generalize n / 4 = Q at *
  go_enter Try.func77, Try.ntmps77
  go_wp2
  go_ret
  exact ⟨ret_int (by rw [← HQ.out]), by go_grown⟩

set_option maxHeartbeats 2000000 in
theorem usedInI (s : Int) (A : Option Addr) (n c : Nat) (cs : List Ce) (w : World) (hx : RV w w.heap.size A (fl Ce.cells cs)) (hl : cs.length = n) (hn : n ≤ 1048576) : Calls Try.prog 76 #[.agg #[.int .i64 s, .slice A n c]] w fun e w' => e = .returned (.int .i64 (usedN cs : Int)) ∧ Below w.heap.size w w' := by
  have HX := Lib.hid hx
  have HL := Lib.hid hl
  clear hx hl
  go_enter Try.func76, Try.ntmps76
  go_wp2
  go_loopw [3, 9] (fun u i wr => ∃ k : Nat, k ≤ n ∧ i = .int .i64 k ∧ u = .int .i64 (usedN (cs.take k) : Int) ∧ Hid (Below w.heap.size w wr)) (fun _ i _ => n - (intOf i).toNat)
  case atStart => exact ⟨0, Nat.zero_le _, rfl, rfl, Lib.hid (Joins.below_alloc1 w _)⟩
  case round =>
    obtain ⟨k, hk, rfl, rfl, hb⟩ := hrel
    by_cases hlt : k < n
    · have hk1 : k < cs.length := by rw [HL.out]; exact hlt
      obtain ⟨g, o, rfl, hg, hc0⟩ := HX.out.flat Ce.cells_length (by omega) hk1
      have hc := Lib.hid (show wr.rangeAt g (o + k * 16) cs[k].cells from fun j u hu => (hb.out.cell (p := ⟨g, o + k * 16 + j, none⟩) hg).trans (hc0 j u hu))
      clear hc0 hg
      have HS := Lib.hid (usedN_succ hk1)
      have hu0 := usedN_le (cs.take k)
      rw [List.length_take] at hu0
      have hu1 : usedN (cs.take k) ≤ k := by omega
      clear hu0
      generalize cs[k] = y at *
      generalize usedN (cs.take k) = U at *
      have q := Lib.hid (K.new wr (.cells #[.bool y.used, .int .i64 y.key.tenant, .int .i64 y.key.key.src.k, .int .i64 y.key.key.src.a, .int .i64 y.key.key.src.b, .int .i64 y.key.key.src.c, .int .i64 y.key.key.src.d, .int .i64 y.key.key.dst.k, .int .i64 y.key.key.dst.a, .int .i64 y.key.key.dst.b, .int .i64 y.key.key.dst.c, .int .i64 y.key.key.dst.d, .int .i64 y.key.key.proto, .int .i64 y.key.key.sport, .int .i64 y.key.key.dport, .int .i64 y.num] 93))
      have B2 := Lib.hid (bthen hb.out (Joins.below_alloc1 wr (.cells #[.bool y.used, .int .i64 y.key.tenant, .int .i64 y.key.key.src.k, .int .i64 y.key.key.src.a, .int .i64 y.key.key.src.b, .int .i64 y.key.key.src.c, .int .i64 y.key.key.src.d, .int .i64 y.key.key.dst.k, .int .i64 y.key.key.dst.a, .int .i64 y.key.key.dst.b, .int .i64 y.key.key.dst.c, .int .i64 y.key.key.dst.d, .int .i64 y.key.key.proto, .int .i64 y.key.key.sport, .int .i64 y.key.key.dport, .int .i64 y.num] 93)))
      cases hu : y.used with
      | true =>
        have HU := Lib.hid hu
        have c0 := (K.cell q.out 0 _ rfl).trans (congrArg some (congrArg Value.bool hu))
        clear hu
        go_wp2_with (first | (with_reducible refine loadAtCe rfl _ rfl g (o + k * 16) rfl y hc.out ?_) | (with_reducible refine storeNewCe rfl _ _ rfl rfl rfl ?_))
        go_roundw
        case rel => exact ⟨k + 1, by omega, by go_num, ret_eq (by rw [HS.out, HU.out]; rfl), B2⟩
        case measure => simp [intOf]; omega
      | false =>
        have HU := Lib.hid hu
        have c0 := (K.cell q.out 0 _ rfl).trans (congrArg some (congrArg Value.bool hu))
        clear hu
        go_wp2_with (first | (with_reducible refine loadAtCe rfl _ rfl g (o + k * 16) rfl y hc.out ?_) | (with_reducible refine storeNewCe rfl _ _ rfl rfl rfl ?_))
        go_roundw
        case rel => exact ⟨k + 1, by omega, by go_num, ret_eq (by rw [HS.out, HU.out]; rfl), B2⟩
        case measure => simp [intOf]; omega
    · obtain rfl : k = n := by omega
      have HE := Lib.hid (show usedN (cs.take k) = usedN cs by rw [take_all HL.out])
      generalize usedN (cs.take k) = U at *
      go_wp2
      go_ret
      exact ⟨ret_int (by rw [HE.out]), hb.out⟩

set_option maxHeartbeats 2000000 in
theorem cellOkI_0 (y : Ce) (b : Bool) (hu : y.used = false) (hbb : decide (y = Ce.zero) = b) (w : World) : Calls Try.prog 78 #[.agg #[.bool y.used, .int .i64 y.key.tenant, .int .i64 y.key.key.src.k, .int .i64 y.key.key.src.a, .int .i64 y.key.key.src.b, .int .i64 y.key.key.src.c, .int .i64 y.key.key.src.d, .int .i64 y.key.key.dst.k, .int .i64 y.key.key.dst.a, .int .i64 y.key.key.dst.b, .int .i64 y.key.key.dst.c, .int .i64 y.key.key.dst.d, .int .i64 y.key.key.proto, .int .i64 y.key.key.sport, .int .i64 y.key.key.dport, .int .i64 y.num]] w fun e w' => e = .returned (.bool b) ∧ Below w.heap.size w w' := by
  have ez : ∀ w, (Op.equalIn 10000 93 (.agg #[.bool y.used, .int .i64 y.key.tenant, .int .i64 y.key.key.src.k, .int .i64 y.key.key.src.a, .int .i64 y.key.key.src.b, .int .i64 y.key.key.src.c, .int .i64 y.key.key.src.d, .int .i64 y.key.key.dst.k, .int .i64 y.key.key.dst.a, .int .i64 y.key.key.dst.b, .int .i64 y.key.key.dst.c, .int .i64 y.key.key.dst.d, .int .i64 y.key.key.proto, .int .i64 y.key.key.sport, .int .i64 y.key.key.dport, .int .i64 y.num]) (.agg #[.bool false, .int .i64 0, .int .i64 0, .int .i64 0, .int .i64 0, .int .i64 0, .int .i64 0, .int .i64 0, .int .i64 0, .int .i64 0, .int .i64 0, .int .i64 0, .int .i64 0, .int .i64 0, .int .i64 0, .int .i64 0])).run Try.prog w = .ok b w := fun w => hbb ▸ eqv_ce y Ce.zero w
  have q0 := Lib.hid (K.new w (.cells #[.bool y.used, .int .i64 y.key.tenant, .int .i64 y.key.key.src.k, .int .i64 y.key.key.src.a, .int .i64 y.key.key.src.b, .int .i64 y.key.key.src.c, .int .i64 y.key.key.src.d, .int .i64 y.key.key.dst.k, .int .i64 y.key.key.dst.a, .int .i64 y.key.key.dst.b, .int .i64 y.key.key.dst.c, .int .i64 y.key.key.dst.d, .int .i64 y.key.key.proto, .int .i64 y.key.key.sport, .int .i64 y.key.key.dport, .int .i64 y.num] 93))
  have c0 := (K.cell q0.out 0 _ rfl).trans (congrArg some (congrArg Value.bool hu))
  clear hu hbb
  go_enter Try.func78, Try.ntmps78
  go_wp2_with (with_reducible refine loadCe rfl _ rfl w.heap.size rfl q0.out ?_)
  go_ret
  exact ⟨rfl, by go_grown⟩

set_option maxHeartbeats 2000000 in
theorem cellOkI_1 (y : Ce) (hu : y.used = true) (h1 : y.key.ok = false) (w : World) : Calls Try.prog 78 #[.agg #[.bool y.used, .int .i64 y.key.tenant, .int .i64 y.key.key.src.k, .int .i64 y.key.key.src.a, .int .i64 y.key.key.src.b, .int .i64 y.key.key.src.c, .int .i64 y.key.key.src.d, .int .i64 y.key.key.dst.k, .int .i64 y.key.key.dst.a, .int .i64 y.key.key.dst.b, .int .i64 y.key.key.dst.c, .int .i64 y.key.key.dst.d, .int .i64 y.key.key.proto, .int .i64 y.key.key.sport, .int .i64 y.key.key.dport, .int .i64 y.num]] w fun e w' => e = .returned (.bool false) ∧ Below w.heap.size w w' := by
  have q0 := Lib.hid (K.new w (.cells #[.bool y.used, .int .i64 y.key.tenant, .int .i64 y.key.key.src.k, .int .i64 y.key.key.src.a, .int .i64 y.key.key.src.b, .int .i64 y.key.key.src.c, .int .i64 y.key.key.src.d, .int .i64 y.key.key.dst.k, .int .i64 y.key.key.dst.a, .int .i64 y.key.key.dst.b, .int .i64 y.key.key.dst.c, .int .i64 y.key.key.dst.d, .int .i64 y.key.key.proto, .int .i64 y.key.key.sport, .int .i64 y.key.key.dport, .int .i64 y.num] 93))
  have c0 := (K.cell q0.out 0 _ rfl).trans (congrArg some (congrArg Value.bool hu))
  have H1 := Lib.hid h1
  clear hu h1
  have k1 := K.cell q0.out 1 _ rfl
  have k2 := K.cell q0.out 2 _ rfl
  have k3 := K.cell q0.out 3 _ rfl
  have k4 := K.cell q0.out 4 _ rfl
  have k5 := K.cell q0.out 5 _ rfl
  have k6 := K.cell q0.out 6 _ rfl
  have k7 := K.cell q0.out 7 _ rfl
  have k8 := K.cell q0.out 8 _ rfl
  have k9 := K.cell q0.out 9 _ rfl
  have k10 := K.cell q0.out 10 _ rfl
  have k11 := K.cell q0.out 11 _ rfl
  have k12 := K.cell q0.out 12 _ rfl
  have k13 := K.cell q0.out 13 _ rfl
  have k14 := K.cell q0.out 14 _ rfl
  go_enter Try.func78, Try.ntmps78
  go_wp2_with fail
  refine Calls.mono (fkOkIB y.key false H1.out _) ?_
  rintro e w1 ⟨rfl, b1⟩
  have B1 := Lib.hid (bthen (Joins.below_alloc1 w _) b1)
  clear b1 c0 k1 k2 k3 k4 k5 k6 k7 k8 k9 k10 k11 k12 k13 k14
  go_wp2
  go_ret
  exact ⟨rfl, B1.out⟩

set_option maxHeartbeats 2000000 in
theorem cellOkI_2 (y : Ce) (b : Bool) (hu : y.used = true) (h1 : y.key.ok = true) (h2 : btw 0 y.num 1000000000000 = b) (w : World) : Calls Try.prog 78 #[.agg #[.bool y.used, .int .i64 y.key.tenant, .int .i64 y.key.key.src.k, .int .i64 y.key.key.src.a, .int .i64 y.key.key.src.b, .int .i64 y.key.key.src.c, .int .i64 y.key.key.src.d, .int .i64 y.key.key.dst.k, .int .i64 y.key.key.dst.a, .int .i64 y.key.key.dst.b, .int .i64 y.key.key.dst.c, .int .i64 y.key.key.dst.d, .int .i64 y.key.key.proto, .int .i64 y.key.key.sport, .int .i64 y.key.key.dport, .int .i64 y.num]] w fun e w' => e = .returned (.bool b) ∧ Below w.heap.size w w' := by
  have q0 := Lib.hid (K.new w (.cells #[.bool y.used, .int .i64 y.key.tenant, .int .i64 y.key.key.src.k, .int .i64 y.key.key.src.a, .int .i64 y.key.key.src.b, .int .i64 y.key.key.src.c, .int .i64 y.key.key.src.d, .int .i64 y.key.key.dst.k, .int .i64 y.key.key.dst.a, .int .i64 y.key.key.dst.b, .int .i64 y.key.key.dst.c, .int .i64 y.key.key.dst.d, .int .i64 y.key.key.proto, .int .i64 y.key.key.sport, .int .i64 y.key.key.dport, .int .i64 y.num] 93))
  have c0 := (K.cell q0.out 0 _ rfl).trans (congrArg some (congrArg Value.bool hu))
  have H1 := Lib.hid h1
  have H2 := Lib.hid h2
  clear hu h1 h2
  have k1 := K.cell q0.out 1 _ rfl
  have k2 := K.cell q0.out 2 _ rfl
  have k3 := K.cell q0.out 3 _ rfl
  have k4 := K.cell q0.out 4 _ rfl
  have k5 := K.cell q0.out 5 _ rfl
  have k6 := K.cell q0.out 6 _ rfl
  have k7 := K.cell q0.out 7 _ rfl
  have k8 := K.cell q0.out 8 _ rfl
  have k9 := K.cell q0.out 9 _ rfl
  have k10 := K.cell q0.out 10 _ rfl
  have k11 := K.cell q0.out 11 _ rfl
  have k12 := K.cell q0.out 12 _ rfl
  have k13 := K.cell q0.out 13 _ rfl
  have k14 := K.cell q0.out 14 _ rfl
  go_enter Try.func78, Try.ntmps78
  go_wp2_with fail
  refine Calls.mono (fkOkIB y.key true H1.out _) ?_
  rintro e w1 ⟨rfl, b1⟩
  have q1 := Lib.hid (K.below b1 q0.out)
  have B1 := Lib.hid (bthen (Joins.below_alloc1 w _) b1)
  clear b1 c0 k1 k2 k3 k4 k5 k6 k7 k8 k9 k10 k11 k12 k13 k14
  have c15 := K.cell q1.out 15 _ rfl
  go_wp2_with fail
  refine Calls.mono (ruleW 0 y.num 1000000000000 b H2.out _) ?_
  rintro e w2 ⟨rfl, b2⟩
  have B2 := Lib.hid (bthen B1.out b2)
  clear b2 c15
  go_wp2
  go_ret
  exact ⟨rfl, B2.out⟩
theorem cellOkI (y : Ce) (w : World) : Calls Try.prog 78 #[.agg #[.bool y.used, .int .i64 y.key.tenant, .int .i64 y.key.key.src.k, .int .i64 y.key.key.src.a, .int .i64 y.key.key.src.b, .int .i64 y.key.key.src.c, .int .i64 y.key.key.src.d, .int .i64 y.key.key.dst.k, .int .i64 y.key.key.dst.a, .int .i64 y.key.key.dst.b, .int .i64 y.key.key.dst.c, .int .i64 y.key.key.dst.d, .int .i64 y.key.key.proto, .int .i64 y.key.key.sport, .int .i64 y.key.key.dport, .int .i64 y.num]] w fun e w' => e = .returned (.bool y.fits) ∧ Below w.heap.size w w' := by
  have hu : y.used = false ∨ y.used = true := by cases y.used <;> simp
  rcases hu with hu | hu
  · exact (cellOkI_0 y _ hu rfl w).mono fun _ _ ⟨he, hb⟩ => ⟨he.trans (ret_bool (fits_0 hu).symm), hb⟩
  · cases h1 : y.key.ok with
    | false => exact (cellOkI_1 y hu h1 w).mono fun _ _ ⟨he, hb⟩ => ⟨he.trans (ret_bool (fits_1 hu h1).symm), hb⟩
    | true => exact (cellOkI_2 y _ hu h1 rfl w).mono fun _ _ ⟨he, hb⟩ => ⟨he.trans (ret_bool (fits_2 hu h1).symm), hb⟩
theorem cellOkIB (y : Ce) (b : Bool) (h : y.fits = b) (w : World) : Calls Try.prog 78 #[.agg #[.bool y.used, .int .i64 y.key.tenant, .int .i64 y.key.key.src.k, .int .i64 y.key.key.src.a, .int .i64 y.key.key.src.b, .int .i64 y.key.key.src.c, .int .i64 y.key.key.src.d, .int .i64 y.key.key.dst.k, .int .i64 y.key.key.dst.a, .int .i64 y.key.key.dst.b, .int .i64 y.key.key.dst.c, .int .i64 y.key.key.dst.d, .int .i64 y.key.key.proto, .int .i64 y.key.key.sport, .int .i64 y.key.key.dport, .int .i64 y.num]] w fun e w' => e = .returned (.bool b) ∧ Below w.heap.size w w' := h ▸ cellOkI y w

end Go.Proofs.Ytmfkpiclpkeemaa

namespace Go.Proofs.Ytmfkpiclpkeemaa
set_option maxRecDepth 100000
open Go.RowKit

set_option maxHeartbeats 4000000 in
theorem probedI (s : Int) (A : Option Addr) (n c : Nat) (cs : List Ce) (w : World) (hx : RV w w.heap.size A (fl Ce.cells cs)) (hl : cs.length = n) (k : Fk) (hs : upTo s 4294967295 = true) (hk : k.ok = true) (h0 : 0 < n) (hn : n ≤ 64) : Calls Try.prog 79 #[.agg #[.int .i64 s, .slice A n c], .agg #[.int .i64 k.tenant, .int .i64 k.key.src.k, .int .i64 k.key.src.a, .int .i64 k.key.src.b, .int .i64 k.key.src.c, .int .i64 k.key.src.d, .int .i64 k.key.dst.k, .int .i64 k.key.dst.a, .int .i64 k.key.dst.b, .int .i64 k.key.dst.c, .int .i64 k.key.dst.d, .int .i64 k.key.proto, .int .i64 k.key.sport, .int .i64 k.key.dport]] w fun e w' => e = .returned (.int .i64 (idx (probeT s cs k))) ∧ Below w.heap.size w w' := by
  have HX := Lib.hid hx
  have HL := Lib.hid hl
  have HH := Lib.hid (show hashOf s k = (hashN s k : Int) from hashOf_yes hs hk)
  have HT := hashN_lt hs k
  have hom : Hid (homeOf s cs.length k = hashN s k % n) := Lib.hid (by rw [homeOf, hl])
  obtain ⟨H, hH⟩ : ∃ H, hashN s k = H := ⟨_, rfl⟩
  rw [hH] at HH HT hom
  clear hx hl hs hk hH
  have p0 : Hid (((w.alloc (.cells #[.int .i64 s, .slice A n c] 40)).alloc (.cells #[.int .i64 k.tenant, .int .i64 k.key.src.k, .int .i64 k.key.src.a, .int .i64 k.key.src.b, .int .i64 k.key.src.c, .int .i64 k.key.src.d, .int .i64 k.key.dst.k, .int .i64 k.key.dst.a, .int .i64 k.key.dst.b, .int .i64 k.key.dst.c, .int .i64 k.key.dst.d, .int .i64 k.key.proto, .int .i64 k.key.sport, .int .i64 k.key.dport] 33)).heap[w.heap.size]? = some (.cells #[.int .i64 s, .slice A n c] 40 (0, 0))) := Lib.hid (K.old (K.new w _) _)
  have q0 : Hid (((w.alloc (.cells #[.int .i64 s, .slice A n c] 40)).alloc (.cells #[.int .i64 k.tenant, .int .i64 k.key.src.k, .int .i64 k.key.src.a, .int .i64 k.key.src.b, .int .i64 k.key.src.c, .int .i64 k.key.src.d, .int .i64 k.key.dst.k, .int .i64 k.key.dst.a, .int .i64 k.key.dst.b, .int .i64 k.key.dst.c, .int .i64 k.key.dst.d, .int .i64 k.key.proto, .int .i64 k.key.sport, .int .i64 k.key.dport] 33)).heap[w.heap.size + 1]? = some (.cells #[.int .i64 k.tenant, .int .i64 k.key.src.k, .int .i64 k.key.src.a, .int .i64 k.key.src.b, .int .i64 k.key.src.c, .int .i64 k.key.src.d, .int .i64 k.key.dst.k, .int .i64 k.key.dst.a, .int .i64 k.key.dst.b, .int .i64 k.key.dst.c, .int .i64 k.key.dst.d, .int .i64 k.key.proto, .int .i64 k.key.sport, .int .i64 k.key.dport] 33 (0, 0))) := Lib.hid (K.newAt (by simp))
  have t0 := K.cell p0.out 0 _ rfl
  go_enter Try.func79, Try.ntmps79
  go_wp2_with fail
  go_step3
  go_wp2_with (with_reducible refine loadFk rfl _ rfl (w.heap.size + 1) rfl q0.out ?_)
  refine Calls.mono (hashIB s k H HH.out _) ?_
  rintro e v ⟨rfl, hB⟩
  have p1 := Lib.hid (K.below hB p0.out)
  have q1 := Lib.hid (K.below hB q0.out)
  have B1 := Lib.hid (bthen (Joins.below_alloc2 w _ _) hB)
  clear hB p0 q0 t0
  have t1 := K.cell p1.out 1 _ rfl
  go_wp2; go_step3; go_wp2
  clear t1
  go_loopw [16] (fun i wr => ∃ j : Nat, j ≤ n ∧ i = .int .i64 j ∧ Hid (∀ s', s' < j → ends Ce.used Ce.key (ceAt cs ((H % n + s') % n)) k = false) ∧ Hid (Below v.heap.size v wr)) (fun i _ => n - (intOf i).toNat)
  case atStart => exact ⟨0, Nat.zero_le _, rfl, Lib.hid (fun s' h => absurd h (by omega)), Lib.hid (Below.refl _ _)⟩
  case round =>
    obtain ⟨j, hj, rfl, HA, hb⟩ := hrel
    by_cases hlt : j < n
    · have hP := Nat.mod_lt (H % n + j) h0
      have hm := modP H j n
      have HPd := Lib.hid (show (H % n + j) % n = (H % n + j) % n from rfl)
      obtain ⟨P, hPe⟩ : ∃ P, (H % n + j) % n = P := ⟨_, rfl⟩
      rw [hPe] at hP hm
      have HPe := Lib.hid hPe
      clear HPd hPe
      have hP1 : P < cs.length := by rw [HL.out]; exact hP
      obtain ⟨g, o, rfl, hg, hc0⟩ := HX.out.flat Ce.cells_length (by omega) hP1
      have hBB := Lib.hid (bthen B1.out hb.out)
      have hc := Lib.hid (show wr.rangeAt g (o + P * 16) cs[P].cells from fun j u hu => (hBB.out.cell (p := ⟨g, o + P * 16 + j, none⟩) hg).trans (hc0 j u hu))
      have HC := Lib.hid (show ceAt cs P = cs[P] from ceAt_get hP1)
      clear hc0 hg
      generalize cs[P] = y at *
      have p2 := Lib.hid (K.below hb.out p1.out)
      have q2 := Lib.hid (K.below hb.out q1.out)
      have t1 := K.cell p2.out 1 _ rfl
      have qy := Lib.hid (K.new wr (.cells #[.bool y.used, .int .i64 y.key.tenant, .int .i64 y.key.key.src.k, .int .i64 y.key.key.src.a, .int .i64 y.key.key.src.b, .int .i64 y.key.key.src.c, .int .i64 y.key.key.src.d, .int .i64 y.key.key.dst.k, .int .i64 y.key.key.dst.a, .int .i64 y.key.key.dst.b, .int .i64 y.key.key.dst.c, .int .i64 y.key.key.dst.d, .int .i64 y.key.key.proto, .int .i64 y.key.key.sport, .int .i64 y.key.key.dport, .int .i64 y.num] 93))
      have qk := Lib.hid (K.old q2.out (.cells #[.bool y.used, .int .i64 y.key.tenant, .int .i64 y.key.key.src.k, .int .i64 y.key.key.src.a, .int .i64 y.key.key.src.b, .int .i64 y.key.key.src.c, .int .i64 y.key.key.src.d, .int .i64 y.key.key.dst.k, .int .i64 y.key.key.dst.a, .int .i64 y.key.key.dst.b, .int .i64 y.key.key.dst.c, .int .i64 y.key.key.dst.d, .int .i64 y.key.key.proto, .int .i64 y.key.key.sport, .int .i64 y.key.key.dport, .int .i64 y.num] 93))
      have B2 := Lib.hid (bthen hb.out (Joins.below_alloc1 wr (.cells #[.bool y.used, .int .i64 y.key.tenant, .int .i64 y.key.key.src.k, .int .i64 y.key.key.src.a, .int .i64 y.key.key.src.b, .int .i64 y.key.key.src.c, .int .i64 y.key.key.src.d, .int .i64 y.key.key.dst.k, .int .i64 y.key.key.dst.a, .int .i64 y.key.key.dst.b, .int .i64 y.key.key.dst.c, .int .i64 y.key.key.dst.d, .int .i64 y.key.key.proto, .int .i64 y.key.key.sport, .int .i64 y.key.key.dport, .int .i64 y.num] 93)))
      have hn0 : ¬ ((n : Int) = 0) := by omega
      cases hu : y.used with
      | false =>
        have HE := Lib.hid (show ends Ce.used Ce.key y k = true by simp [ends, hu])
        have c0 := (K.cell qy.out 0 _ rfl).trans (congrArg some (congrArg Value.bool hu))
        clear hu
        go_wp2_with (first | (with_reducible refine loadAtCe rfl _ rfl g (o + P * 16) rfl y hc.out ?_) | (with_reducible refine storeNewCe rfl _ _ rfl rfl rfl ?_))
        (try rw [Exit.noGoto_ret])
        go_ret
        refine ⟨ret_int ?_, bthen hBB.out (Joins.below_alloc1 wr _)⟩
        rw [probeT, probe_some.2 ⟨j, by rw [HL.out]; exact hlt, by rw [hom.out, HL.out, HPe.out], by rw [HC.out]; exact HE.out, fun i hi => by rw [hom.out, HL.out]; exact HA.out i hi⟩]
        rfl
      | true =>
        have c0 := (K.cell qy.out 0 _ rfl).trans (congrArg some (congrArg Value.bool hu))
        obtain ⟨_, x1, x2, x3, x4, x5, x6, x7, x8, x9, x10, x11, x12, x13, x14, _⟩ := K.ce qy.out
        obtain ⟨z0, z1, z2, z3, z4, z5, z6, z7, z8, z9, z10, z11, z12, z13⟩ := K.fk qk.out
        by_cases he : y.key = k
        · have HE := Lib.hid (show ends Ce.used Ce.key y k = true by simp [ends, he])
          have ek : ∀ w, (Op.equalIn 10000 33 (.agg #[.int .i64 y.key.tenant, .int .i64 y.key.key.src.k, .int .i64 y.key.key.src.a, .int .i64 y.key.key.src.b, .int .i64 y.key.key.src.c, .int .i64 y.key.key.src.d, .int .i64 y.key.key.dst.k, .int .i64 y.key.key.dst.a, .int .i64 y.key.key.dst.b, .int .i64 y.key.key.dst.c, .int .i64 y.key.key.dst.d, .int .i64 y.key.key.proto, .int .i64 y.key.key.sport, .int .i64 y.key.key.dport]) (.agg #[.int .i64 k.tenant, .int .i64 k.key.src.k, .int .i64 k.key.src.a, .int .i64 k.key.src.b, .int .i64 k.key.src.c, .int .i64 k.key.src.d, .int .i64 k.key.dst.k, .int .i64 k.key.dst.a, .int .i64 k.key.dst.b, .int .i64 k.key.dst.c, .int .i64 k.key.dst.d, .int .i64 k.key.proto, .int .i64 k.key.sport, .int .i64 k.key.dport])).run Try.prog w = .ok true w := fun w => (eqv_fk y.key k w).trans (by rw [decide_eq_true he])
          clear hu he
          go_wp2_with (first | (with_reducible refine loadAtCe rfl _ rfl g (o + P * 16) rfl y hc.out ?_) | (with_reducible refine storeNewCe rfl _ _ rfl rfl rfl ?_))
          (try rw [Exit.noGoto_ret])
          go_ret
          refine ⟨ret_int ?_, bthen hBB.out (Joins.below_alloc1 wr _)⟩
          rw [probeT, probe_some.2 ⟨j, by rw [HL.out]; exact hlt, by rw [hom.out, HL.out, HPe.out], by rw [HC.out]; exact HE.out, fun i hi => by rw [hom.out, HL.out]; exact HA.out i hi⟩]
          rfl
        · have HE := Lib.hid (show ends Ce.used Ce.key y k = false by simp [ends, hu, he])
          have ek : ∀ w, (Op.equalIn 10000 33 (.agg #[.int .i64 y.key.tenant, .int .i64 y.key.key.src.k, .int .i64 y.key.key.src.a, .int .i64 y.key.key.src.b, .int .i64 y.key.key.src.c, .int .i64 y.key.key.src.d, .int .i64 y.key.key.dst.k, .int .i64 y.key.key.dst.a, .int .i64 y.key.key.dst.b, .int .i64 y.key.key.dst.c, .int .i64 y.key.key.dst.d, .int .i64 y.key.key.proto, .int .i64 y.key.key.sport, .int .i64 y.key.key.dport]) (.agg #[.int .i64 k.tenant, .int .i64 k.key.src.k, .int .i64 k.key.src.a, .int .i64 k.key.src.b, .int .i64 k.key.src.c, .int .i64 k.key.src.d, .int .i64 k.key.dst.k, .int .i64 k.key.dst.a, .int .i64 k.key.dst.b, .int .i64 k.key.dst.c, .int .i64 k.key.dst.d, .int .i64 k.key.proto, .int .i64 k.key.sport, .int .i64 k.key.dport])).run Try.prog w = .ok false w := fun w => (eqv_fk y.key k w).trans (by rw [decide_eq_false he])
          clear hu he
          go_wp2_with (first | (with_reducible refine loadAtCe rfl _ rfl g (o + P * 16) rfl y hc.out ?_) | (with_reducible refine storeNewCe rfl _ _ rfl rfl rfl ?_))
          go_roundw
          case rel =>
            refine ⟨j + 1, by omega, by go_num, Lib.hid (fun i hi => ?_), B2⟩
            by_cases h : i < j
            · exact HA.out i h
            · obtain rfl : i = j := by omega
              rw [HPe.out, HC.out]
              exact HE.out
          case measure => simp [intOf]; omega
    · obtain rfl : j = n := by omega
      go_wp2
      (try rw [Exit.noGoto_ret])
      go_ret
      refine ⟨ret_int ?_, bthen B1.out hb.out⟩
      have : probeT s cs k = none := by
        unfold probeT probe
        rw [firstAt_none.2 (fun i hi => by rw [hom.out, HL.out]; exact HA.out i (by rw [← HL.out]; exact hi))]
        rfl
      rw [this]
      rfl
end Go.Proofs.Ytmfkpiclpkeemaa

namespace Go.Proofs.Ytmfkpiclpkeemaa
set_option maxRecDepth 100000
open Go.RowKit

set_option maxHeartbeats 2000000 in
theorem countS (s : Int) (A : Option Addr) (n c : Nat) (cs : List Ce) (w : World) (hx : RV w w.heap.size A (fl Ce.cells cs)) (hl : cs.length = n) (hn : n ≤ 1048576) : Calls Try.prog 72 #[.agg #[.int .i64 s, .slice A n c]] w fun e w' => e = .returned (.int .i64 (usedN cs : Int)) ∧ Below w.heap.size w w' := by
  have HX := Lib.hid hx
  have HL := Lib.hid hl
  have q0 := Lib.hid (K.new w (.cells #[.int .i64 s, .slice A n c] 40))
  have HB := Lib.hid (Joins.below_alloc1 w (.cells #[.int .i64 s, .slice A n c] 40))
  have t1 := K.cell q0.out 1 _ rfl
  clear hx hl
  go_enter Try.func72, Try.ntmps72
  go_wp2
  go_loop [3, 4] (fun u i => ∃ k : Nat, k ≤ n ∧ i = .int .i64 k ∧ u = .int .i64 (usedN (cs.take k) : Int)) (fun _ i => n - (intOf i).toNat)
  case atStart => exact ⟨0, Nat.zero_le _, rfl, rfl⟩
  case round =>
    obtain ⟨k, hk, rfl, rfl⟩ := hrel
    by_cases hlt : k < n
    · have hk1 : k < cs.length := by rw [HL.out]; exact hlt
      obtain ⟨g, o, rfl, hg, hc0⟩ := HX.out.flat Ce.cells_length (by omega) hk1
      have HS := Lib.hid (usedN_succ hk1)
      have hu0 := usedN_le (cs.take k)
      rw [List.length_take] at hu0
      have hu1 : usedN (cs.take k) ≤ k := by omega
      have hc1 := (HB.out.cell (p := ⟨g, o + k * 16, none⟩) hg).trans (by have := hc0 0 _ rfl; simpa using this)
      clear hu0 hc0 hg
      generalize cs[k] = y at *
      generalize usedN (cs.take k) = U at *
      cases hu : y.used with
      | true =>
        have HU := Lib.hid hu
        rw [hu] at hc1
        clear hu
        go_wp2
        go_round
        case rel => exact ⟨k + 1, by omega, by go_num, ret_eq (by rw [HS.out, HU.out]; rfl)⟩
        case measure => simp [intOf]; omega
      | false =>
        have HU := Lib.hid hu
        rw [hu] at hc1
        clear hu
        go_wp2
        go_round
        case rel => exact ⟨k + 1, by omega, by go_num, ret_eq (by rw [HS.out, HU.out]; rfl)⟩
        case measure => simp [intOf]; omega
    · obtain rfl : k = n := by omega
      have HE := Lib.hid (show usedN (cs.take k) = usedN cs by rw [take_all HL.out])
      generalize usedN (cs.take k) = U at *
      go_wp2
      go_ret
      exact ⟨ret_int (by rw [HE.out]), HB.out⟩

set_option maxHeartbeats 4000000 in
theorem placeS (s : Int) (A : Option Addr) (n c : Nat) (cs : List Ce) (w : World) (hx : RV w w.heap.size A (fl Ce.cells cs)) (hl : cs.length = n) (hn : n ≤ 1048576) (k : Fk) : Calls Try.prog 73 #[.agg #[.int .i64 s, .slice A n c], .agg #[.int .i64 k.tenant, .int .i64 k.key.src.k, .int .i64 k.key.src.a, .int .i64 k.key.src.b, .int .i64 k.key.src.c, .int .i64 k.key.src.d, .int .i64 k.key.dst.k, .int .i64 k.key.dst.a, .int .i64 k.key.dst.b, .int .i64 k.key.dst.c, .int .i64 k.key.dst.d, .int .i64 k.key.proto, .int .i64 k.key.sport, .int .i64 k.key.dport]] w fun e w' => e = .returned (.int .i64 (idx (placeT cs k))) ∧ Below w.heap.size w w' := by
  have HX := Lib.hid hx
  have HL := Lib.hid hl
  clear hx hl
  have p0 : Hid (((w.alloc (.cells #[.int .i64 s, .slice A n c] 40)).alloc (.cells #[.int .i64 k.tenant, .int .i64 k.key.src.k, .int .i64 k.key.src.a, .int .i64 k.key.src.b, .int .i64 k.key.src.c, .int .i64 k.key.src.d, .int .i64 k.key.dst.k, .int .i64 k.key.dst.a, .int .i64 k.key.dst.b, .int .i64 k.key.dst.c, .int .i64 k.key.dst.d, .int .i64 k.key.proto, .int .i64 k.key.sport, .int .i64 k.key.dport] 33)).heap[w.heap.size]? = some (.cells #[.int .i64 s, .slice A n c] 40 (0, 0))) := Lib.hid (K.old (K.new w _) _)
  have q0 : Hid (((w.alloc (.cells #[.int .i64 s, .slice A n c] 40)).alloc (.cells #[.int .i64 k.tenant, .int .i64 k.key.src.k, .int .i64 k.key.src.a, .int .i64 k.key.src.b, .int .i64 k.key.src.c, .int .i64 k.key.src.d, .int .i64 k.key.dst.k, .int .i64 k.key.dst.a, .int .i64 k.key.dst.b, .int .i64 k.key.dst.c, .int .i64 k.key.dst.d, .int .i64 k.key.proto, .int .i64 k.key.sport, .int .i64 k.key.dport] 33)).heap[w.heap.size + 1]? = some (.cells #[.int .i64 k.tenant, .int .i64 k.key.src.k, .int .i64 k.key.src.a, .int .i64 k.key.src.b, .int .i64 k.key.src.c, .int .i64 k.key.src.d, .int .i64 k.key.dst.k, .int .i64 k.key.dst.a, .int .i64 k.key.dst.b, .int .i64 k.key.dst.c, .int .i64 k.key.dst.d, .int .i64 k.key.proto, .int .i64 k.key.sport, .int .i64 k.key.dport] 33 (0, 0))) := Lib.hid (K.newAt (by simp))
  have HB := Lib.hid (Joins.below_alloc2 w (.cells #[.int .i64 s, .slice A n c] 40) (.cells #[.int .i64 k.tenant, .int .i64 k.key.src.k, .int .i64 k.key.src.a, .int .i64 k.key.src.b, .int .i64 k.key.src.c, .int .i64 k.key.src.d, .int .i64 k.key.dst.k, .int .i64 k.key.dst.a, .int .i64 k.key.dst.b, .int .i64 k.key.dst.c, .int .i64 k.key.dst.d, .int .i64 k.key.proto, .int .i64 k.key.sport, .int .i64 k.key.dport] 33))
  go_enter Try.func73, Try.ntmps73
  go_wp2
  generalize (w.alloc (.cells #[.int .i64 s, .slice A n c] 40)).alloc (.cells #[.int .i64 k.tenant, .int .i64 k.key.src.k, .int .i64 k.key.src.a, .int .i64 k.key.src.b, .int .i64 k.key.src.c, .int .i64 k.key.src.d, .int .i64 k.key.dst.k, .int .i64 k.key.dst.a, .int .i64 k.key.dst.b, .int .i64 k.key.dst.c, .int .i64 k.key.dst.d, .int .i64 k.key.proto, .int .i64 k.key.sport, .int .i64 k.key.dport] 33) = w1 at p0 q0 HB ⊢
  go_loopw [5] (fun i wr => ∃ j : Nat, j ≤ n ∧ i = .int .i64 j ∧ Hid (∀ s', s' < j → ¬ ((ceAt cs s').used = true ∧ (ceAt cs s').key = k)) ∧ Hid (Below w1.heap.size w1 wr)) (fun i _ => n - (intOf i).toNat)
  case atStart => exact ⟨0, Nat.zero_le _, rfl, Lib.hid (fun s' h => absurd h (by omega)), Lib.hid (Below.refl _ _)⟩
  case round =>
    obtain ⟨j, hj, rfl, HA, hb⟩ := hrel
    have p2 := Lib.hid (K.below hb.out p0.out)
    have t1 := K.cell p2.out 1 _ rfl
    have hBB := Lib.hid (bthen HB.out hb.out)
    by_cases hlt : j < n
    · have hj1 : j < cs.length := by rw [HL.out]; exact hlt
      obtain ⟨g, o, rfl, hg, hc0⟩ := HX.out.flat Ce.cells_length (by omega) hj1
      have hc := Lib.hid (show wr.rangeAt g (o + j * 16) cs[j].cells from fun i u hu => (hBB.out.cell (p := ⟨g, o + j * 16 + i, none⟩) hg).trans (hc0 i u hu))
      have HC := Lib.hid (show ceAt cs j = cs[j] from ceAt_get hj1)
      clear hc0 hg
      generalize cs[j] = y at *
      have q2 := Lib.hid (K.below hb.out q0.out)
      cases hu : y.used with
      | false =>
        have HE := Lib.hid (show ¬ (y.used = true ∧ y.key = k) by simp [hu])
        have c0 := (show wr.cell? ⟨g, o + j * 16, none⟩ = some (.bool y.used) by have := hc.out 0 _ rfl; simpa using this).trans (congrArg some (congrArg Value.bool hu))
        clear hu
        go_wp2_with fail
        go_quiet (fail)
        go_wp2
        go_roundw
        case rel =>
          refine ⟨j + 1, by omega, by go_num, Lib.hid (fun i hi => ?_), Lib.hid (below_drewN hb.out _)⟩
          by_cases h : i < j
          · exact HA.out i h
          · obtain rfl : i = j := by omega
            rw [HC.out]
            exact HE.out
        case measure => simp [intOf]; omega
      | true =>
        have c0 := (show wr.cell? ⟨g, o + j * 16, none⟩ = some (.bool y.used) by have := hc.out 0 _ rfl; simpa using this).trans (congrArg some (congrArg Value.bool hu))
        have x1 := hc.out 1 _ rfl
        have x2 := hc.out 2 _ rfl
        have x3 := hc.out 3 _ rfl
        have x4 := hc.out 4 _ rfl
        have x5 := hc.out 5 _ rfl
        have x6 := hc.out 6 _ rfl
        have x7 := hc.out 7 _ rfl
        have x8 := hc.out 8 _ rfl
        have x9 := hc.out 9 _ rfl
        have x10 := hc.out 10 _ rfl
        have x11 := hc.out 11 _ rfl
        have x12 := hc.out 12 _ rfl
        have x13 := hc.out 13 _ rfl
        have x14 := hc.out 14 _ rfl
        obtain ⟨z0, z1, z2, z3, z4, z5, z6, z7, z8, z9, z10, z11, z12, z13⟩ := K.fk q2.out
        by_cases he : y.key = k
        · have HE := Lib.hid (show y.used = true ∧ y.key = k from ⟨hu, he⟩)
          have ek : ∀ w, (Op.equalIn 10000 33 (.agg #[.int .i64 y.key.tenant, .int .i64 y.key.key.src.k, .int .i64 y.key.key.src.a, .int .i64 y.key.key.src.b, .int .i64 y.key.key.src.c, .int .i64 y.key.key.src.d, .int .i64 y.key.key.dst.k, .int .i64 y.key.key.dst.a, .int .i64 y.key.key.dst.b, .int .i64 y.key.key.dst.c, .int .i64 y.key.key.dst.d, .int .i64 y.key.key.proto, .int .i64 y.key.key.sport, .int .i64 y.key.key.dport]) (.agg #[.int .i64 k.tenant, .int .i64 k.key.src.k, .int .i64 k.key.src.a, .int .i64 k.key.src.b, .int .i64 k.key.src.c, .int .i64 k.key.src.d, .int .i64 k.key.dst.k, .int .i64 k.key.dst.a, .int .i64 k.key.dst.b, .int .i64 k.key.dst.c, .int .i64 k.key.dst.d, .int .i64 k.key.proto, .int .i64 k.key.sport, .int .i64 k.key.dport])).run Try.prog w = .ok true w := fun w => (eqv_fk y.key k w).trans (by rw [decide_eq_true he])
          clear hu he
          go_wp2_with fail
          go_quiet (fail)
          go_wp2
          go_ret
          refine ⟨ret_int ?_, below_drewN hBB.out _⟩
          rw [placeT, place_some.2 ⟨hj1, by rw [HC.out]; exact HE.out.1, by rw [HC.out]; exact HE.out.2, fun i hi => HA.out i hi⟩]
          rfl
        · have HE := Lib.hid (show ¬ (y.used = true ∧ y.key = k) by simp [he])
          have ek : ∀ w, (Op.equalIn 10000 33 (.agg #[.int .i64 y.key.tenant, .int .i64 y.key.key.src.k, .int .i64 y.key.key.src.a, .int .i64 y.key.key.src.b, .int .i64 y.key.key.src.c, .int .i64 y.key.key.src.d, .int .i64 y.key.key.dst.k, .int .i64 y.key.key.dst.a, .int .i64 y.key.key.dst.b, .int .i64 y.key.key.dst.c, .int .i64 y.key.key.dst.d, .int .i64 y.key.key.proto, .int .i64 y.key.key.sport, .int .i64 y.key.key.dport]) (.agg #[.int .i64 k.tenant, .int .i64 k.key.src.k, .int .i64 k.key.src.a, .int .i64 k.key.src.b, .int .i64 k.key.src.c, .int .i64 k.key.src.d, .int .i64 k.key.dst.k, .int .i64 k.key.dst.a, .int .i64 k.key.dst.b, .int .i64 k.key.dst.c, .int .i64 k.key.dst.d, .int .i64 k.key.proto, .int .i64 k.key.sport, .int .i64 k.key.dport])).run Try.prog w = .ok false w := fun w => (eqv_fk y.key k w).trans (by rw [decide_eq_false he])
          clear hu he
          go_wp2_with fail
          go_quiet (fail)
          go_wp2
          go_roundw
          case rel =>
            refine ⟨j + 1, by omega, by go_num, Lib.hid (fun i hi => ?_), Lib.hid (below_drewN hb.out _)⟩
            by_cases h : i < j
            · exact HA.out i h
            · obtain rfl : i = j := by omega
              rw [HC.out]
              exact HE.out
          case measure => simp [intOf]; omega
    · obtain rfl : j = n := by omega
      go_wp2
      go_ret
      refine ⟨ret_int ?_, hBB.out⟩
      have : placeT cs k = none := place_none.2 (fun i hi hu e => HA.out i (by rw [← HL.out]; exact hi) ⟨hu, e⟩)
      rw [this]
      rfl

set_option maxHeartbeats 2000000 in
theorem homeS (s : Int) (A : Option Addr) (n c : Nat) (k : Fk) (w : World) (hs : upTo s 4294967295 = true) (hk : k.ok = true) (h0 : 0 < n) : Calls Try.prog 74 #[.agg #[.int .i64 s, .slice A n c], .agg #[.int .i64 k.tenant, .int .i64 k.key.src.k, .int .i64 k.key.src.a, .int .i64 k.key.src.b, .int .i64 k.key.src.c, .int .i64 k.key.src.d, .int .i64 k.key.dst.k, .int .i64 k.key.dst.a, .int .i64 k.key.dst.b, .int .i64 k.key.dst.c, .int .i64 k.key.dst.d, .int .i64 k.key.proto, .int .i64 k.key.sport, .int .i64 k.key.dport]] w fun e w' => e = .returned (.int .i64 (homeOf s n k : Int)) ∧ Below w.heap.size w w' := by
  have HH := Lib.hid (show hashOf s k = (hashN s k : Int) from hashOf_yes hs hk)
  have hm : ((hashN s k : Int)).tmod (n : Int) = (homeOf s n k : Int) := by
    rw [homeOf, Int.tmod_eq_emod_of_nonneg (by omega)]
    first | (simp; done) | omega
  have hT := hashN_lt hs k
  generalize homeOf s n k = R at *
  generalize hashN s k = H at *
  have hn0 : ¬ ((n : Int) = 0) := by omega
  clear hs hk
  have p0 : Hid (((w.alloc (.cells #[.int .i64 s, .slice A n c] 40)).alloc (.cells #[.int .i64 k.tenant, .int .i64 k.key.src.k, .int .i64 k.key.src.a, .int .i64 k.key.src.b, .int .i64 k.key.src.c, .int .i64 k.key.src.d, .int .i64 k.key.dst.k, .int .i64 k.key.dst.a, .int .i64 k.key.dst.b, .int .i64 k.key.dst.c, .int .i64 k.key.dst.d, .int .i64 k.key.proto, .int .i64 k.key.sport, .int .i64 k.key.dport] 33)).heap[w.heap.size]? = some (.cells #[.int .i64 s, .slice A n c] 40 (0, 0))) := Lib.hid (K.old (K.new w _) _)
  have q0 : Hid (((w.alloc (.cells #[.int .i64 s, .slice A n c] 40)).alloc (.cells #[.int .i64 k.tenant, .int .i64 k.key.src.k, .int .i64 k.key.src.a, .int .i64 k.key.src.b, .int .i64 k.key.src.c, .int .i64 k.key.src.d, .int .i64 k.key.dst.k, .int .i64 k.key.dst.a, .int .i64 k.key.dst.b, .int .i64 k.key.dst.c, .int .i64 k.key.dst.d, .int .i64 k.key.proto, .int .i64 k.key.sport, .int .i64 k.key.dport] 33)).heap[w.heap.size + 1]? = some (.cells #[.int .i64 k.tenant, .int .i64 k.key.src.k, .int .i64 k.key.src.a, .int .i64 k.key.src.b, .int .i64 k.key.src.c, .int .i64 k.key.src.d, .int .i64 k.key.dst.k, .int .i64 k.key.dst.a, .int .i64 k.key.dst.b, .int .i64 k.key.dst.c, .int .i64 k.key.dst.d, .int .i64 k.key.proto, .int .i64 k.key.sport, .int .i64 k.key.dport] 33 (0, 0))) := Lib.hid (K.newAt (by simp))
  have HB := Lib.hid (Joins.below_alloc2 w (.cells #[.int .i64 s, .slice A n c] 40) (.cells #[.int .i64 k.tenant, .int .i64 k.key.src.k, .int .i64 k.key.src.a, .int .i64 k.key.src.b, .int .i64 k.key.src.c, .int .i64 k.key.src.d, .int .i64 k.key.dst.k, .int .i64 k.key.dst.a, .int .i64 k.key.dst.b, .int .i64 k.key.dst.c, .int .i64 k.key.dst.d, .int .i64 k.key.proto, .int .i64 k.key.sport, .int .i64 k.key.dport] 33))
  go_enter Try.func74, Try.ntmps74
  go_wp2_with fail
  refine wp_region_facts (by kernel_rfl) 7 13 [(0, 5), (1, 6), (2, 7), (3, 8), (4, 9), (5, 10), (6, 11)] _ ([.val (.pointer (some ⟨w.heap.size, 0, none⟩)), .val (.int .i64 s), .val (.agg #[.int .i64 k.tenant, .int .i64 k.key.src.k, .int .i64 k.key.src.a, .int .i64 k.key.src.b, .int .i64 k.key.src.c, .int .i64 k.key.src.d, .int .i64 k.key.dst.k, .int .i64 k.key.dst.a, .int .i64 k.key.dst.b, .int .i64 k.key.dst.c, .int .i64 k.key.dst.d, .int .i64 k.key.proto, .int .i64 k.key.sport, .int .i64 k.key.dport]), .val (.int .i64 (H : Int)), .val (.pointer (some ⟨w.heap.size, 1, none⟩)), .val (.slice A n c), .val (.int .i64 (n : Int))]) (by kernel_rfl) (by kernel_rfl) rfl rfl ?_ ?_
  · intro j o hj ho a' v K' hx hnd hB hK
    match j, hj, ho with
    | 0, _, ho =>
      obtain rfl := Option.some.inj ho
      have h0 : a'.eval (.tmp 2) = .pointer (some ⟨w.heap.size, 0, none⟩) := (hx 2 (by decide)).trans rfl
      exact f_tab0 _ _ rfl h0 (hK _ _ rfl (Below.refl _ _))
    | 1, _, ho =>
      obtain rfl := Option.some.inj ho
      have h0 : a'.eval (.tmp 5) = .pointer (some ⟨w.heap.size, 0, none⟩) := (fact_of hnd 0 5 (by kernel_rfl) :)
      exact t_int _ _ _ _ rfl h0 (K.cell (K.below hB p0.out) 0 _ rfl) (hK _ _ rfl (Below.refl _ _))
    | 2, _, ho =>
      obtain rfl := Option.some.inj ho
      have h0 : a'.eval (.tmp 3) = .pointer (some ⟨w.heap.size + 1, 0, none⟩) := (hx 3 (by decide)).trans rfl
      exact r_fk _ _ k rfl h0 (K.below hB q0.out) (hK _ _ rfl (Below.refl _ _))
    | 3, _, ho =>
      obtain rfl := Option.some.inj ho
      have h0 : a'.eval (.tmp 6) = .int .i64 s := (fact_of hnd 1 6 (by kernel_rfl) :)
      have h1 : a'.eval (.tmp 7) = .agg #[.int .i64 k.tenant, .int .i64 k.key.src.k, .int .i64 k.key.src.a, .int .i64 k.key.src.b, .int .i64 k.key.src.c, .int .i64 k.key.src.d, .int .i64 k.key.dst.k, .int .i64 k.key.dst.a, .int .i64 k.key.dst.b, .int .i64 k.key.dst.c, .int .i64 k.key.dst.d, .int .i64 k.key.proto, .int .i64 k.key.sport, .int .i64 k.key.dport] := (fact_of hnd 2 7 (by kernel_rfl) :)
      refine u_hashS _ _ _ _ _ rfl h0 h1 (Calls.mono (hashSB s k H HH.out _) ?_)
      rintro e' v' ⟨rfl, b6⟩
      exact ⟨_, rfl, hK _ _ rfl b6⟩
    | 4, _, ho =>
      obtain rfl := Option.some.inj ho
      have h0 : a'.eval (.tmp 2) = .pointer (some ⟨w.heap.size, 0, none⟩) := (hx 2 (by decide)).trans rfl
      exact f_tab1 _ _ rfl h0 (hK _ _ rfl (Below.refl _ _))
    | 5, _, ho =>
      obtain rfl := Option.some.inj ho
      have h0 : a'.eval (.tmp 9) = .pointer (some ⟨w.heap.size, 1, none⟩) := (fact_of hnd 4 9 (by kernel_rfl) :)
      exact t_sl _ _ _ _ rfl h0 (K.cell (K.below hB p0.out) 1 _ rfl) (hK _ _ rfl (Below.refl _ _))
    | 6, _, ho =>
      obtain rfl := Option.some.inj ho
      have h0 : a'.eval (.tmp 10) = .slice A n c := (fact_of hnd 5 10 (by kernel_rfl) :)
      exact t_len _ _ _ _ rfl h0 (hK _ _ rfl (Below.refl _ _))
    | j + 7, hj, _ => omega
  · intro f v hf hB
    have e0 : f 0 = (.pointer (some ⟨w.heap.size, 0, none⟩)) := hf (0, 5) (by decide)
    have e1 : f 1 = (.int .i64 s) := hf (1, 6) (by decide)
    have e2 : f 2 = (.agg #[.int .i64 k.tenant, .int .i64 k.key.src.k, .int .i64 k.key.src.a, .int .i64 k.key.src.b, .int .i64 k.key.src.c, .int .i64 k.key.src.d, .int .i64 k.key.dst.k, .int .i64 k.key.dst.a, .int .i64 k.key.dst.b, .int .i64 k.key.dst.c, .int .i64 k.key.dst.d, .int .i64 k.key.proto, .int .i64 k.key.sport, .int .i64 k.key.dport]) := hf (2, 7) (by decide)
    have e3 : f 3 = (.int .i64 (H : Int)) := hf (3, 8) (by decide)
    have e4 : f 4 = (.pointer (some ⟨w.heap.size, 1, none⟩)) := hf (4, 9) (by decide)
    have e5 : f 5 = (.slice A n c) := hf (5, 10) (by decide)
    have e6 : f 6 = (.int .i64 (n : Int)) := hf (6, 11) (by decide)
    simp only [List.foldl_cons, List.foldl_nil, List.drop_succ_cons, List.drop_zero, e0, e1, e2, e3, e4, e5, e6]
    clear e0 e1 e2 e3 e4 e5 e6 hf
    go_simp
    have B2 := Lib.hid (bthen HB.out hB)
    clear hB
    go_wp2
    go_ret
    exact ⟨rfl, B2.out⟩
end Go.Proofs.Ytmfkpiclpkeemaa

namespace Go.Proofs.Ytmfkpiclpkeemaa
set_option maxRecDepth 100000
open Go.RowKit

section
variable {o : Oper} {a : Act} {w : World} {K : Act → World → Prop} {Q : Exit → Act → World → Prop}
theorem t_pk (x y : Operand) (t : Nat) (b : Bool) (v : Value) (ho : o.op = .pick (.tmp t) x y) (hc : a.eval (.tmp t) = .bool b) (hv : (if b then a.eval x else a.eval y) = v) (hK : K (a.put o.dst v) w) : o.wp Try.prog a w K Q := by
  cases b with
  | false =>
    have hw : a.eval y = v := hv
    unfold Oper.wp execOp
    simp only [ho, hc, hw]
    go_simp
    exact hK
  | true =>
    have hw : a.eval x = v := hv
    unfold Oper.wp execOp
    simp only [ho, hc, hw]
    go_simp
    exact hK
theorem t_gtr (x y : Operand) (m n : Int) (b : Bool) (ho : o.op = .binOp .gtr 3 x y 3) (hx : a.eval x = .int .i64 m) (hy : a.eval y = .int .i64 n) (h : decide (n < m) = b) (hK : K (a.put o.dst (.bool b)) w) : o.wp Try.prog a w K Q := by
  subst h
  unfold Oper.wp execOp
  simp only [ho, hx, hy]
  go_simp
  exact hK
end
end Go.Proofs.Ytmfkpiclpkeemaa
