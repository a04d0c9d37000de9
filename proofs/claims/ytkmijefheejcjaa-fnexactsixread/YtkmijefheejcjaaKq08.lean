/-
  A region that draws its order, by what each of its operations leaves: whatever order is drawn, each operation finds what those leave on which it waits. Plain: any program. The steps of a region that draws numbers off a cursor and puts them together: what each operation leaves. The region in which the laws compare a packet with a new copy: it draws its order. What the program reads behind the length of an IPv4 head. What bytes are read as: an IPv4 head, options, a body, the rest, a code. Plain: nothing here speaks of the program. FourOk in the model. FourOk in the program. FourOk in the program. FourOk in the program.
-/
import Derived.Orders
import Derived.Test.YtkmijefheejcjaaKq01
import Derived.Test.YtkmijefheejcjaaKq03
import Derived.Test.YtkmijefheejcjaaKq04
import Derived.Test.YtkmijefheejcjaaKq07
import Derived.Deep.WholeRow
import Derived.Test.YtkmijefheejcjaaKq06
import Derived.Deep.Cut
import Derived.Lib.QuietBelow
import Derived.Deep.QuietTactic
import Derived.BigQuiet
namespace Go.Proofs.Ytkmijefheejcjaa
set_option maxRecDepth 100000
open Go.RowKit

section
variable {P : Program} {ops : Array Oper} {Q : Exit → Act → World → Prop}

/-- The operations on which operation j waits, with their slots. -/
def needOf (ops : Array Oper) (j : Nat) : List (Nat × Nat) :=
  match ops[j]? with
  | none => []
  | some o => o.after.toList.filterMap fun e => if Region.binds .any e then ((ops[e.on]?).bind (·.dst)).map fun d => (e.on, d) else none
theorem needOf_spec {j : Nat} {o : Oper} (ho : ops[j]? = some o) {p : Nat × Nat} (hp : p ∈ needOf ops j) :
    (∃ e ∈ o.after, e.on = p.1 ∧ Region.binds .any e = true) ∧ ∃ oj, ops[p.1]? = some oj ∧ oj.dst = some p.2 := by
  unfold needOf at hp
  rw [ho] at hp
  obtain ⟨e, he, hq⟩ := List.mem_filterMap.1 hp
  split at hq
  · rename_i hb
    rw [Option.map_eq_some_iff] at hq
    obtain ⟨d, hd, rfl⟩ := hq
    rw [Option.bind_eq_some_iff] at hd
    obtain ⟨oj, h1, h2⟩ := hd
    exact ⟨⟨e, by simpa using he, rfl, hb⟩, oj, h1, h2⟩
  · cases hq

/-- What is asked of the region's form: each operation waits for earlier ones alone, none is guarded, its slots are its own and none of those that stand outside. -/
def formB (ops : Array Oper) (n : Nat) (out : List Nat) : Bool :=
  (List.range ops.size).all fun j => match ops[j]? with
    | none => true
    | some o => o.after.all (fun e => !Region.binds .any e || decide (e.on < j)) && o.guard.isNone && (match o.dst with
      | none => true
      | some d => decide (d < n) && !out.contains d && (List.range ops.size).all fun i => decide (i = j) || decide ((ops[i]?).bind (·.dst) ≠ some d))
theorem formB_at {n : Nat} {out : List Nat} (h : formB ops n out = true) {j : Nat} {o : Oper} (ho : ops[j]? = some o) :
    (∀ e ∈ o.after, Region.binds .any e = true → e.on < j) ∧ o.guard = none ∧ ∀ d, o.dst = some d → d < n ∧ d ∉ out ∧ ∀ i oi, ops[i]? = some oi → oi.dst = some d → i = j := by
  have hj : j < ops.size := (Array.getElem?_eq_some_iff.1 ho).1
  have h1 := List.all_eq_true.1 h j (List.mem_range.2 hj)
  rw [ho] at h1
  simp only [Bool.and_eq_true] at h1
  refine ⟨fun e he hb => ?_, ?_, fun d hd => ?_⟩
  · have := Array.all_eq_true_iff_forall_mem.1 h1.1.1 e he
    simpa [hb] using this
  · simpa using h1.1.2
  · have h2 := h1.2
    rw [hd] at h2
    simp only [Bool.and_eq_true, decide_eq_true_eq, Bool.not_eq_true', List.contains_eq_mem, decide_eq_false_iff_not] at h2
    refine ⟨h2.1.1, h2.1.2, fun i oi hi hdi => ?_⟩
    have hil : i < ops.size := (Array.getElem?_eq_some_iff.1 hi).1
    have h3 := List.all_eq_true.1 h2.2 i (List.mem_range.2 hil)
    rw [hi] at h3
    simp only [Option.bind_some, hdi, ne_eq, not_true, decide_false, Bool.or_false, decide_eq_true_eq] at h3
    exact h3

theorem put_other (a : Act) {dst : Option Tmp} {t : Nat} (v : Value) (h : dst ≠ some t) : (a.put dst v).tmps.getD t undef = a.tmps.getD t undef := by
  cases dst with
  | none => rfl
  | some d =>
    have hne : d ≠ t := fun e => h (by rw [e])
    simp [Act.put, Array.getElem?_setIfInBounds_ne hne]
theorem put_own (a : Act) {d n : Nat} (v : Value) (h : d < n) (hn : a.tmps.size = n) : (a.put (some d) v).tmps.getD d undef = v := by
  subst hn
  simp [Act.put, h]
theorem put_size (a : Act) (dst : Option Tmp) (v : Value) : (a.put dst v).tmps.size = a.tmps.size := by
  cases dst with
  | none => rfl
  | some d => simp [Act.put]
theorem put_defers' (a : Act) (dst : Option Tmp) (v : Value) : (a.put dst v).defers = a.defers := by
  cases dst <;> rfl

/-- How many have come up. -/
def up (listed : Array Bool) : Nat := listed.toList.count true
theorem up_set {listed : Array Bool} {i : Nat} (h : listed.getD i true = false) : up (listed.setIfInBounds i true) = up listed + 1 ∧ i < listed.size := by
  have hi : i < listed.size := by
    by_cases hi : i < listed.size
    · exact hi
    · simp [hi] at h
  refine ⟨?_, hi⟩
  have hg : listed[i] = false := by simpa [hi] using h
  have hl : i < listed.toList.length := hi
  unfold up
  rw [Array.toList_setIfInBounds, List.count_set hl]
  have hg2 : listed.toList[i] = false := hg
  rw [hg2]
  simp
theorem up_all {listed : Array Bool} (h : up listed = listed.size) {i : Nat} (hi : i < listed.size) : listed.getD i false = true := by
  have h2 : listed.toList.count true = listed.toList.length := by simpa [up] using h
  have h3 := List.count_eq_length.1 h2 listed[i] (by simp)
  have : listed[i] = true := h3.symm
  simp [hi, this]
theorem up_le (listed : Array Bool) : up listed ≤ listed.size := by
  have := List.count_le_length (a := true) (l := listed.toList)
  simpa [up] using this

/-- What stands while the region runs. -/
structure Kept (ops : Array Oper) (Γ : Nat → World → Value → Prop) (out : List Nat) (I : Nat → World → Prop) (n : Nat) (a0 : Act) (listed : Array Bool) (a : Act) (w : World) : Prop where
  size : listed.size = ops.size
  len : a.tmps.size = n
  defers : a.defers = a0.defers
  keep : ∀ t, (∀ (j : Nat) o, ops[j]? = some o → o.dst ≠ some t) → a.tmps.getD t undef = a0.tmps.getD t undef
  inv : I (up listed) w
  slots : ∀ (j : Nat) o d, ops[j]? = some o → o.dst = some d → listed.getD j false = true → Γ j w (a.tmps.getD d undef)

theorem some_ready {n : Nat} {out : List Nat} (hf : formB ops n out = true) {listed : Array Bool} (hs : listed.size = ops.size) (hr : Region.ready .any ops listed = []) : up listed = ops.size := by
  have hall : ∀ j, j < ops.size → listed.getD j false = true := by
    intro j
    induction j using Nat.strongRecOn with
    | ind j ih =>
      intro hj
      obtain ⟨o, ho⟩ : ∃ o, ops[j]? = some o := ⟨_, Array.getElem?_eq_getElem hj⟩
      cases hg : listed.getD j false
      · have hm : j ∈ Region.ready .any ops listed := by
          refine mem_ready.2 ⟨?_, o, ho, fun e he hb => ?_⟩
          · have hj2 : j < listed.size := by omega
            simpa [hj2] using hg
          · have := (formB_at hf ho).1 e he hb
            exact ih e.on this (by omega)
        rw [hr] at hm
        cases hm
      · rfl
  have h1 : listed.toList.count true = listed.toList.length := List.count_eq_length.2 fun b hb => by
    obtain ⟨i, hi, rfl⟩ := List.getElem_of_mem hb
    have hi2 : i < listed.size := by simpa using hi
    have := hall i (by omega)
    simpa [hi2] using this.symm
  simpa [up, hs] using h1

theorem wpAny_kept {Γ : Nat → World → Value → Prop} {out : List Nat} {I : Nat → World → Prop} {R : World → World → Prop} {n : Nat} {a0 : Act} (hf : formB ops n out = true)
    (hΓ : ∀ j w w' v, R w w' → Γ j w v → Γ j w' v)
    (hop : ∀ (j : Nat) o, ops[j]? = some o → ∀ k a w K, (∀ t ∈ out, a.tmps.getD t undef = a0.tmps.getD t undef) → (∀ p ∈ needOf ops j, Γ p.1 w (a.tmps.getD p.2 undef)) → k < ops.size → I k w →
      (∀ v w', Γ j w' v → R w w' → I (k + 1) w' → K (a.put o.dst v) w') → o.wp P a w K Q)
    (hend : ∀ a w, a.tmps.size = n → a.defers = a0.defers → (∀ t ∈ out, a.tmps.getD t undef = a0.tmps.getD t undef) → (∀ t, (∀ (j : Nat) o, ops[j]? = some o → o.dst ≠ some t) → a.tmps.getD t undef = a0.tmps.getD t undef) →
      (∀ (j : Nat) o d, ops[j]? = some o → o.dst = some d → Γ j w (a.tmps.getD d undef)) → I ops.size w → Q .normal a w) :
    ∀ (fuel : Nat) (listed : Array Bool) (a : Act) (w : World), Kept ops Γ out I n a0 listed a w → ops.size ≤ up listed + fuel → wpAny P .any ops Q fuel listed a w := by
  have fin : ∀ (listed : Array Bool) (a : Act) (w : World), Kept ops Γ out I n a0 listed a w → up listed = ops.size → Q .normal a w := by
    intro listed a w hk hu
    refine hend a w hk.len hk.defers (fun t ht => hk.keep t (fun j oj hj hdj => ((formB_at hf hj).2.2 t hdj).2.1 ht)) hk.keep (fun j o d ho hd => hk.slots j o d ho hd ?_) (hu ▸ hk.inv)
    have hj : j < ops.size := (Array.getElem?_eq_some_iff.1 ho).1
    exact up_all (by rw [hu, hk.size]) (by rw [hk.size]; exact hj)
  intro fuel
  induction fuel with
  | zero =>
    intro listed a w hk hle
    have hu : up listed = ops.size := by have := up_le listed; have := hk.size; omega
    refine ⟨?_, fin listed a w hk hu⟩
    cases hr : Region.ready .any ops listed with
    | nil => rfl
    | cons i l =>
      have hm : i ∈ Region.ready .any ops listed := by rw [hr]; simp
      obtain ⟨h0, _⟩ := mem_ready.1 hm
      have := (up_set h0).1
      have h3 := up_le (listed.setIfInBounds i true)
      have h4 : (listed.setIfInBounds i true).size = listed.size := by simp
      have := hk.size
      omega
  | succ fuel ih =>
    intro listed a w hk hle
    refine ⟨fun hr => fin listed a w hk (some_ready hf hk.size hr), fun i hi => ?_⟩
    obtain ⟨h0, o, ho, hall⟩ := mem_ready.1 hi
    obtain ⟨hu, hil⟩ := up_set h0
    obtain ⟨hlt, hg, hd⟩ := formB_at hf ho
    unfold wpOp
    simp only [ho]
    rw [if_pos (by simp [Region.wanted, hg])]
    left
    refine hop i o ho (up listed) a w _ (fun t ht => hk.keep t (fun j oj hj hdj => ?_)) (fun p hp => ?_) (by have := hk.size; have := up_le (listed.setIfInBounds i true); simp at this; omega) hk.inv ?_
    · exact ((formB_at hf hj).2.2 t hdj).2.1 ht
    · obtain ⟨⟨e, he, hep, hb⟩, oj, hoj, hdj⟩ := needOf_spec ho hp
      exact hk.slots p.1 oj p.2 hoj hdj (by rw [← hep]; exact hall e he hb)
    · intro v w' hv hR hI
      refine ih _ _ _ ⟨by simpa using hk.size, by rw [put_size]; exact hk.len, by rw [put_defers']; exact hk.defers, fun t ht => ?_, by rw [hu]; exact hI, fun j oj d hj hdj hl => ?_⟩ (by omega)
      · rw [put_other a v (ht i o ho)]
        exact hk.keep t ht
      · by_cases hji : j = i
        · subst hji
          obtain rfl : o = oj := Option.some.inj (ho.symm.trans hj)
          rw [hdj, put_own a v (hd d hdj).1 hk.len]
          exact hv
        · have hne : o.dst ≠ some d := fun e => hji ((hd d e).2.2 j oj hj hdj)
          rw [put_other a v hne]
          refine hΓ j w w' _ hR (hk.slots j oj d hj hdj ?_)
          rw [← getD_set_ne (listed := listed) false (Ne.symm hji)]
          exact hl

theorem wp_region_kept {id : Nat} {a : Act} {w : World} (hm : P.follows .mixedOrders = true) (Γ : Nat → World → Value → Prop) (out : List Nat) (I : Nat → World → Prop) (R : World → World → Prop) (n : Nat) (hf : formB ops n out = true)
    (hn : a.tmps.size = n) (h0 : I 0 { w with drawn := w.drawn + 1 }) (hΓ : ∀ j w w' v, R w w' → Γ j w v → Γ j w' v)
    (hop : ∀ (j : Nat) o, ops[j]? = some o → ∀ k a' w K, (∀ t ∈ out, a'.tmps.getD t undef = a.tmps.getD t undef) → (∀ p ∈ needOf ops j, Γ p.1 w (a'.tmps.getD p.2 undef)) → k < ops.size → I k w →
      (∀ v w', Γ j w' v → R w w' → I (k + 1) w' → K (a'.put o.dst v) w') → o.wp P a' w K Q)
    (hend : ∀ a' w', a'.tmps.size = n → a'.defers = a.defers → (∀ t ∈ out, a'.tmps.getD t undef = a.tmps.getD t undef) → (∀ t, (∀ (j : Nat) o, ops[j]? = some o → o.dst ≠ some t) → a'.tmps.getD t undef = a.tmps.getD t undef) →
      (∀ (j : Nat) o d, ops[j]? = some o → o.dst = some d → Γ j w' (a'.tmps.getD d undef)) → I ops.size w' → Q .normal a' w') : (Code.region id ops true).wp P Q a w := by
  refine wp_region_any hm (wpAny_kept (out := out) (I := I) (R := R) (Γ := Γ) (n := n) (a0 := a) hf hΓ hop hend ops.size _ a _ ⟨by simp, hn, rfl, fun _ _ => rfl, ?_, fun j o d _ _ hl => ?_⟩ (by omega))
  · have : up (Array.replicate ops.size false) = 0 := by simp [up, List.count_replicate]
    rw [this]
    exact h0
  · simp [Array.getElem?_replicate] at hl
    split at hl <;> simp at hl
end
end Go.Proofs.Ytkmijefheejcjaa

namespace Go.Proofs.Ytkmijefheejcjaa
set_option maxRecDepth 100000
open Go.RowKit

/-- What a slot may hold: the cursor's pointer, the result's pointer, an integer, an index below n, a row of n integers, a pointer to an integer. -/
inductive Av where
  | cur | res | int | idx (n : Nat) | row (n : Nat) | cellp | ad | any
def gam (g r : Nat) : Av → World → Value → Prop
  | .cur, _, v => v = .pointer (some ⟨g, 0, none⟩)
  | .res, _, v => v = .pointer (some ⟨r, 0, none⟩)
  | .int, _, v => ∃ x : Int, v = .int .i64 x
  | .idx n, _, v => ∃ x : Nat, v = .int .i64 (x : Int) ∧ x < n
  | .row n, w, v => ∃ b, v = .slice (some ⟨b, 0, none⟩) n n ∧ b ≠ g ∧ b ≠ r ∧ ∀ j, j < n → ∃ x : Int, w.cell? ⟨b, j, none⟩ = some (.int .i64 x)
  | .cellp, w, v => ∃ b j, v = .pointer (some ⟨b, j, none⟩) ∧ b ≠ g ∧ b ≠ r ∧ ∃ x : Int, w.cell? ⟨b, j, none⟩ = some (.int .i64 x)
  | .ad, _, v => ∃ x : Ad, v = .agg #[.int .i64 x.k, .int .i64 x.a, .int .i64 x.b, .int .i64 x.c, .int .i64 x.d]
  | .any, _, _ => True
/-- Nothing has turned but the blocks g and r; there may be new ones. -/
def Turned (g r : Nat) (w w' : World) : Prop := w.heap.size ≤ w'.heap.size ∧ ∀ i, i < w.heap.size → i ≠ g → i ≠ r → w'.heap[i]? = w.heap[i]?
theorem Turned.cell {g r : Nat} {w w' : World} (h : Turned g r w w') {b j : Nat} {v : Value} (hg : b ≠ g) (hr : b ≠ r) (hc : w.cell? ⟨b, j, none⟩ = some v) : w'.cell? ⟨b, j, none⟩ = some v := by
  have hb : b < w.heap.size := World.block_lt_of_cell? _ _ hc
  rw [← hc]
  unfold World.cell?
  simp only [h.2 b hb hg hr]
theorem Turned.refl (g r : Nat) (w : World) : Turned g r w w := ⟨Nat.le_refl _, fun _ _ _ _ => rfl⟩
theorem Turned.of_grown {g r : Nat} {w w' : World} (h : w.grownBy w' (some g)) : Turned g r w w' := ⟨h.size, fun i hi h1 _ => h.block i hi (fun e => h1 (Option.some.inj e))⟩
theorem Turned.alloc (g r : Nat) (w : World) (o : Obj) : Turned g r w (w.alloc o) := ⟨by simp, fun i hi _ _ => Below.heap_alloc w o i hi⟩
theorem gam_on {g r : Nat} {w w' : World} (h : Turned g r w w') (t : Av) (v : Value) (hv : gam g r t w v) : gam g r t w' v := by
  cases t with
  | row n =>
    obtain ⟨b, h1, h2, h3, h4⟩ := hv
    refine ⟨b, h1, h2, h3, fun j hj => ?_⟩
    obtain ⟨x, hx⟩ := h4 j hj
    exact ⟨x, h.cell h2 h3 hx⟩
  | cellp =>
    obtain ⟨b, j, h1, h2, h3, x, hx⟩ := hv
    exact ⟨b, j, h1, h2, h3, x, h.cell h2 h3 hx⟩
  | _ => exact hv

theorem need_of {ops : Array Oper} {Γ : Nat → World → Value → Prop} {w : World} {a : Act} {j : Nat} (h : ∀ p ∈ needOf ops j, Γ p.1 w (a.tmps.getD p.2 undef)) (i d : Nat) (hm : (needOf ops j).contains (i, d) = true) : Γ i w (a.eval (.tmp d)) :=
  h (i, d) (by simpa using hm)
theorem out_of {a a' : Act} {out : List Nat} (h : ∀ t ∈ out, a'.tmps.getD t undef = a.tmps.getD t undef) (t : Nat) (hm : out.contains t = true) {v : Value} (hv : a.tmps.getD t undef = v) : a'.eval (.tmp t) = v := (h t (by simpa using hm)).trans hv

section
variable {o : Oper} {a : Act} {w : World} {K : Act → World → Prop} {Q : Exit → Act → World → Prop}
theorem s_move (t : Nat) (v : Value) (ho : o.op = .move (.tmp t)) (ht : a.eval (.tmp t) = v) (hK : K (a.put o.dst v) w) : o.wp Try.prog a w K Q := by
  unfold Oper.wp execOp
  simp only [ho, ht]
  go_simp
  exact hK
theorem s_pick (t : Nat) (c : Value) (ts : Array TypeId) (g : Nat) (ho : o.op = .call { callee := .value (.func 74), args := #[.tmp t, .const c], argTypes := ts }) (ht : a.eval (.tmp t) = .pointer (some ⟨g, 0, none⟩))
    (h : Calls Try.prog 74 #[.pointer (some ⟨g, 0, none⟩), c] w fun e w' => ∃ u, e = .returned u ∧ K (a.put o.dst u) w') : o.wp Try.prog a w K Q := by
  unfold Oper.wp execOp
  simp only [ho, resolve, List.map_toArray, List.map_cons, List.map_nil, ht, show a.eval (.const c) = c from rfl, show ∀ f, a.eval (.func f) = .func (.func f) #[] #[] from fun _ => rfl]
  go_simp
  exact h.mono fun e w' ⟨u, he, hk⟩ => by subst he; exact hk
theorem s_wide (t : Nat) (c : Value) (ts : Array TypeId) (g : Nat) (ho : o.op = .call { callee := .value (.func 119), args := #[.tmp t, .const c], argTypes := ts }) (ht : a.eval (.tmp t) = .pointer (some ⟨g, 0, none⟩))
    (h : Calls Try.prog 119 #[.pointer (some ⟨g, 0, none⟩), c] w fun e w' => ∃ u, e = .returned u ∧ K (a.put o.dst u) w') : o.wp Try.prog a w K Q := by
  unfold Oper.wp execOp
  simp only [ho, resolve, List.map_toArray, List.map_cons, List.map_nil, ht, show a.eval (.const c) = c from rfl, show ∀ f, a.eval (.func f) = .func (.func f) #[] #[] from fun _ => rfl]
  go_simp
  exact h.mono fun e w' ⟨u, he, hk⟩ => by subst he; exact hk
theorem s_load (t : Nat) (b j : Nat) (v : Value) (ho : o.op = .load 3 (.tmp t)) (ht : a.eval (.tmp t) = .pointer (some ⟨b, j, none⟩)) (hc : w.cell? ⟨b, j, none⟩ = some v) (hK : K (a.put o.dst v) w) : o.wp Try.prog a w K Q := by
  unfold Oper.wp execOp
  simp only [ho, ht]
  go_simp
  exact hK
theorem s_idx (t u : Nat) (b n y : Nat) (ho : o.op = .indexAddr 43 (.tmp t) (.tmp u)) (ht : a.eval (.tmp t) = .slice (some ⟨b, 0, none⟩) n n) (hu : a.eval (.tmp u) = .int .i64 (y : Int)) (hy : (y : Int) < (n : Int)) (hK : K (a.put o.dst (.pointer (some ⟨b, y, none⟩))) w) : o.wp Try.prog a w K Q := by
  unfold Oper.wp execOp
  simp only [ho, ht, hu]
  go_simp
  exact hK
theorem s_mul (x y : Operand) (m n : Int) (ho : o.op = .binOp .mul 3 x y 3) (hx : a.eval x = .int .i64 m) (hy : a.eval y = .int .i64 n) (hK : ∀ z : Int, K (a.put o.dst (.int .i64 z)) w) : o.wp Try.prog a w K Q := by
  unfold Oper.wp execOp
  simp only [ho, hx, hy]
  go_simp
  exact hK _
theorem s_add (x y : Operand) (m n : Int) (ho : o.op = .binOp .add 3 x y 3) (hx : a.eval x = .int .i64 m) (hy : a.eval y = .int .i64 n) (hK : ∀ z : Int, K (a.put o.dst (.int .i64 z)) w) : o.wp Try.prog a w K Q := by
  unfold Oper.wp execOp
  simp only [ho, hx, hy]
  go_simp
  exact hK _
theorem s_sub (x y : Operand) (m n : Int) (ho : o.op = .binOp .sub 3 x y 3) (hx : a.eval x = .int .i64 m) (hy : a.eval y = .int .i64 n) (hK : ∀ z : Int, K (a.put o.dst (.int .i64 z)) w) : o.wp Try.prog a w K Q := by
  unfold Oper.wp execOp
  simp only [ho, hx, hy]
  go_simp
  exact hK _
theorem s_row2 (x0 x1 : Operand) (m0 m1 : Int) (ho : o.op = .buildSlice 43 2 #[(0, x0), (1, x1)]) (h0 : a.eval x0 = .int .i64 m0) (h1 : a.eval x1 = .int .i64 m1)
    (hK : K (a.put o.dst (.slice (some ⟨w.heap.size, 0, none⟩) 2 2)) (w.alloc (.cells #[.int .i64 m0, .int .i64 m1] 3))) : o.wp Try.prog a w K Q := by
  unfold Oper.wp execOp
  simp only [ho, List.map_toArray, List.map_cons, List.map_nil, h0, h1]
  go_simp
  exact hK
theorem s_row3 (x0 x1 x2 : Operand) (m0 m1 m2 : Int) (ho : o.op = .buildSlice 43 3 #[(0, x0), (1, x1), (2, x2)]) (h0 : a.eval x0 = .int .i64 m0) (h1 : a.eval x1 = .int .i64 m1) (h2 : a.eval x2 = .int .i64 m2)
    (hK : K (a.put o.dst (.slice (some ⟨w.heap.size, 0, none⟩) 3 3)) (w.alloc (.cells #[.int .i64 m0, .int .i64 m1, .int .i64 m2] 3))) : o.wp Try.prog a w K Q := by
  unfold Oper.wp execOp
  simp only [ho, List.map_toArray, List.map_cons, List.map_nil, h0, h1, h2]
  go_simp
  exact hK
theorem s_ad (x0 x1 x2 x3 x4 : Operand) (m0 m1 m2 m3 m4 : Int) (ho : o.op = .build 25 #[(0, x0), (1, x1), (2, x2), (3, x3), (4, x4)]) (h0 : a.eval x0 = .int .i64 m0) (h1 : a.eval x1 = .int .i64 m1) (h2 : a.eval x2 = .int .i64 m2) (h3 : a.eval x3 = .int .i64 m3) (h4 : a.eval x4 = .int .i64 m4)
    (hK : K (a.put o.dst (.agg #[.int .i64 m0, .int .i64 m1, .int .i64 m2, .int .i64 m3, .int .i64 m4])) w) : o.wp Try.prog a w K Q := by
  unfold Oper.wp execOp
  simp only [ho, List.map_toArray, List.map_cons, List.map_nil, h0, h1, h2, h3, h4]
  go_simp
  exact hK
theorem s_store5 (x y : Operand) (r : Nat) (z z' : Ad) (ho : o.op = .store 25 x y) (hx : a.eval x = .pointer (some ⟨r, 0, none⟩)) (hy : a.eval y = .agg #[.int .i64 z.k, .int .i64 z.a, .int .i64 z.b, .int .i64 z.c, .int .i64 z.d]) (hr : w.heap[r]? = some (.cells #[.int .i64 z'.k, .int .i64 z'.a, .int .i64 z'.b, .int .i64 z'.c, .int .i64 z'.d] 25 (0, 0)))
    (hK : K (a.put o.dst undef) (((((w.setCell ⟨r, 0, none⟩ (.int .i64 z.k)).setCell ⟨r, 1, none⟩ (.int .i64 z.a)).setCell ⟨r, 2, none⟩ (.int .i64 z.b)).setCell ⟨r, 3, none⟩ (.int .i64 z.c)).setCell ⟨r, 4, none⟩ (.int .i64 z.d))) : o.wp Try.prog a w K Q := by
  obtain ⟨⟨c0, c1, c2, c3, c4⟩, f0, f1, f2, f3, f4⟩ := row5 hr
  clear hr
  unfold Oper.wp execOp
  simp only [ho, hx, hy]
  go_simp
  exact hK
theorem cells3 (w : World) (x0 x1 x2 : Int) (j : Nat) (h : j < 3) : ∃ x : Int, (w.alloc (.cells #[.int .i64 x0, .int .i64 x1, .int .i64 x2] 3)).cell? ⟨w.heap.size, j, none⟩ = some (.int .i64 x) := by
  rw [cell_of_row _ w.heap.size j _ 3 (0, 0) (heap_alloc_new w _)]
  match j, h with
  | 0, _ => exact ⟨x0, rfl⟩
  | 1, _ => exact ⟨x1, rfl⟩
  | 2, _ => exact ⟨x2, rfl⟩
theorem cells2 (w : World) (x0 x1 : Int) (j : Nat) (h : j < 2) : ∃ x : Int, (w.alloc (.cells #[.int .i64 x0, .int .i64 x1] 3)).cell? ⟨w.heap.size, j, none⟩ = some (.int .i64 x) := by
  rw [cell_of_row _ w.heap.size j _ 3 (0, 0) (heap_alloc_new w _)]
  match j, h with
  | 0, _ => exact ⟨x0, rfl⟩
  | 1, _ => exact ⟨x1, rfl⟩
end

/-- What stands in a region that draws numbers off the cursor in block g and lays an address into block r: W is the world at the call's begin. -/
def InReg (W : World) (g r : Nat) (A : Option Addr) (c : Nat) (bs : List UInt8) (t : Nat) (k : Nat) (w : World) : Prop :=
  (∃ t', t' ≤ t + 4 * k ∧ Cur w g A c bs t') ∧ (∃ x : Ad, w.heap[r]? = some (.cells #[.int .i64 x.k, .int .i64 x.a, .int .i64 x.b, .int .i64 x.c, .int .i64 x.d] 25 (0, 0))) ∧ W.grownBy w (some g)
section
variable {W w w' : World} {g r : Nat} {A : Option Addr} {c : Nat} {bs : List UInt8} {t k : Nat}
theorem InReg.more (h : InReg W g r A c bs t k w) : InReg W g r A c bs t (k + 1) w := by
  obtain ⟨⟨t', h1, h2⟩, h3, h4⟩ := h
  exact ⟨⟨t', by omega, h2⟩, h3, h4⟩
theorem InReg.alloc (h : InReg W g r A c bs t k w) (o : Obj) : InReg W g r A c bs t (k + 1) (w.alloc o) := by
  obtain ⟨⟨t', h1, h2⟩, ⟨x, hx⟩, h4⟩ := h
  refine ⟨⟨t', by omega, h2.below (Joins.below_alloc1 w o)⟩, ⟨x, (Below.heap_alloc w o r (Array.getElem?_eq_some_iff.1 hx).1).trans hx⟩, only_new h4 o⟩
theorem InReg.drawn (h : InReg W g r A c bs t k w) (hg : w.grownBy w' (some g)) (hrg : r ≠ g) {t' : Nat} (ht : t' ≤ t + 4 * (k + 1)) (hc : Cur w' g A c bs t') : InReg W g r A c bs t (k + 1) w' := by
  obtain ⟨_, ⟨x, hx⟩, h4⟩ := h
  exact ⟨⟨t', ht, hc⟩, ⟨x, (hg.block r (Array.getElem?_eq_some_iff.1 hx).1 (fun e => hrg (Option.some.inj e))).trans hx⟩, grownBy_trans h4 hg⟩
end
end Go.Proofs.Ytkmijefheejcjaa

namespace Go.Proofs.Ytkmijefheejcjaa
set_option maxRecDepth 100000
open Go.RowKit



theorem getD_set (l : Array Value) (j i : Nat) (v : Value) (hj : j < l.size) : (l.setIfInBounds j v).getD i undef = if i = j then v else l.getD i undef := by
  by_cases h : i = j
  · subst h
    simp [hj]
  · rw [if_neg h]
    simp only [Array.getD_eq_getD_getElem?, Array.getElem?_setIfInBounds, Ne.symm h, if_false]
theorem ext_getD {l m : Array Value} (hs : l.size = m.size) (h : ∀ i, l.getD i undef = m.getD i undef) : l = m := by
  apply Array.ext hs
  intro i h1 h2
  have := h i
  simpa [h1, h2] using this

/-- A frame of which all slots but five are known is the old one with these five written. -/
theorem act_eq5 {a a' : Act} {n : Nat} (d : Nat) (hsz : a'.tmps.size = n) (hn : a.tmps.size = n) (hdf : a'.defers = a.defers) (hd : d + 5 ≤ n)
    (h : ∀ t, t ≠ d → t ≠ d + 1 → t ≠ d + 2 → t ≠ d + 3 → t ≠ d + 4 → a'.tmps.getD t undef = a.tmps.getD t undef) (v0 v1 v2 v3 v4 : Value) (g0 : a'.tmps.getD d undef = v0) (g1 : a'.tmps.getD (d + 1) undef = v1) (g2 : a'.tmps.getD (d + 2) undef = v2) (g3 : a'.tmps.getD (d + 3) undef = v3) (g4 : a'.tmps.getD (d + 4) undef = v4) :
    a' = ((((a.put (some d) v0).put (some (d + 1)) v1).put (some (d + 2)) v2).put (some (d + 3)) v3).put (some (d + 4)) v4 := by
  obtain ⟨tm, df⟩ := a'
  obtain ⟨tm0, df0⟩ := a
  simp only at hsz hn hdf h g0 g1 g2 g3 g4
  subst hdf
  show (⟨tm, df⟩ : Act) = ⟨((((tm0.setIfInBounds d v0).setIfInBounds (d + 1) v1).setIfInBounds (d + 2) v2).setIfInBounds (d + 3) v3).setIfInBounds (d + 4) v4, df⟩
  congr 1
  refine ext_getD (by simp only [Array.size_setIfInBounds]; omega) (fun i => ?_)
  rw [getD_set _ _ _ _ (by simp only [Array.size_setIfInBounds]; omega), getD_set _ _ _ _ (by simp only [Array.size_setIfInBounds]; omega), getD_set _ _ _ _ (by simp only [Array.size_setIfInBounds]; omega), getD_set _ _ _ _ (by simp only [Array.size_setIfInBounds]; omega), getD_set _ _ _ _ (by omega)]
  by_cases h4 : i = d + 4
  · rw [if_pos h4, h4, g4]
  · rw [if_neg h4]
    by_cases h3 : i = d + 3
    · rw [if_pos h3, h3, g3]
    · rw [if_neg h3]
      by_cases h2 : i = d + 2
      · rw [if_pos h2, h2, g2]
      · rw [if_neg h2]
        by_cases h1 : i = d + 1
        · rw [if_pos h1, h1, g1]
        · rw [if_neg h1]
          by_cases h0 : i = d
          · rw [if_pos h0, h0, g0]
          · rw [if_neg h0]
            exact h i h0 h1 h2 h3 h4

section
variable {o : Oper} {a : Act} {w : World} {K : Act → World → Prop} {Q : Exit → Act → World → Prop}
theorem s_not (t : Nat) (b : Bool) (ty : TypeId) (ho : o.op = .unOp .not ty (.tmp t)) (ht : a.eval (.tmp t) = .bool b) (hK : K (a.put o.dst (.bool (!b))) w) : o.wp Try.prog a w K Q := by
  unfold Oper.wp execOp
  simp only [ho, ht]
  go_simp
  exact hK
end

/-- What the five operations leave. -/
def GSame (x : Fh) (A D E G : Option Addr) (n c m d e g : Nat) (os bs : List UInt8) : Nat → World → Value → Prop
  | 0, _, v => v = .agg #[.int .i64 x.dscp, .int .i64 x.ecn, .int .i64 x.id, .int .i64 x.flags, .int .i64 x.frag, .int .i64 x.ttl, .int .i64 x.proto, .int .i64 x.src.k, .int .i64 x.src.a, .int .i64 x.src.b, .int .i64 x.src.c, .int .i64 x.src.d, .int .i64 x.dst.k, .int .i64 x.dst.a, .int .i64 x.dst.b, .int .i64 x.dst.c, .int .i64 x.dst.d, .slice E n e, .slice G m g]
  | 1, _, v => v = .agg #[.int .i64 x.dscp, .int .i64 x.ecn, .int .i64 x.id, .int .i64 x.flags, .int .i64 x.frag, .int .i64 x.ttl, .int .i64 x.proto, .int .i64 x.src.k, .int .i64 x.src.a, .int .i64 x.src.b, .int .i64 x.src.c, .int .i64 x.src.d, .int .i64 x.dst.k, .int .i64 x.dst.a, .int .i64 x.dst.b, .int .i64 x.dst.c, .int .i64 x.dst.d, .slice A n c, .slice D m d]
  | 2, w, v => ∃ A6 c6 D6 d6, v = .agg #[.int .i64 x.dscp, .int .i64 x.ecn, .int .i64 x.id, .int .i64 x.flags, .int .i64 x.frag, .int .i64 x.ttl, .int .i64 x.proto, .int .i64 x.src.k, .int .i64 x.src.a, .int .i64 x.src.b, .int .i64 x.src.c, .int .i64 x.src.d, .int .i64 x.dst.k, .int .i64 x.dst.a, .int .i64 x.dst.b, .int .i64 x.dst.c, .int .i64 x.dst.d, .slice A6 n c6, .slice D6 m d6] ∧ RB w w.heap.size A6 os ∧ RB w w.heap.size D6 bs
  | 3, _, v => v = .bool true
  | 4, _, v => v = .bool false
  | _, _, _ => True
theorem gSame_on {x : Fh} {A D E G : Option Addr} {n c m d e g : Nat} {os bs : List UInt8} (j : Nat) (w w' : World) (v : Value) (h : Below w.heap.size w w') (hv : GSame x A D E G n c m d e g os bs j w v) : GSame x A D E G n c m d e g os bs j w' v := by
  match j, hv with
  | 0, hv => exact hv
  | 1, hv => exact hv
  | 2, ⟨A6, c6, D6, d6, e, r, s⟩ => exact ⟨A6, c6, D6, d6, e, (r.below h).more h.size, (s.below h).more h.size⟩
  | 3, hv => exact hv
  | 4, hv => exact hv
  | j + 5, _ => trivial

end Go.Proofs.Ytkmijefheejcjaa

namespace Go.Proofs.Ytkmijefheejcjaa
set_option maxRecDepth 100000
open Go.RowKit

end Go.Proofs.Ytkmijefheejcjaa

namespace Go.Proofs.Ytkmijefheejcjaa
set_option maxRecDepth 100000
open Go.RowKit

def fHead (bs : List UInt8) : Nat := 4 * (num bs 0 1 % 16)
def fx0 (bs : List UInt8) : Fh := ⟨(num bs 1 1 : Int) / 4, (num bs 1 1 : Int) % 4, num bs 4 2, (num bs 6 2 : Int) / 8192, (num bs 6 2 : Int) % 8192, num bs 8 1, num bs 9 1, ⟨4, 0, 0, 0, num bs 12 4⟩, ⟨4, 0, 0, 0, num bs 16 4⟩⟩
def fo0 (bs : List UInt8) : List UInt8 := (bs.drop 20).take (fHead bs - 20)
def fb0 (bs : List UInt8) : List UInt8 := (bs.drop (fHead bs)).take (num bs 2 2 - fHead bs)
def frc (bs : List UInt8) : Int :=
  if 1600 < bs.length then 1 else if bs.length < 20 then 2 else if num bs 0 1 / 16 ≠ 4 then 3 else if fHead bs < 20 ∨ bs.length < fHead bs then 4
  else if num bs 2 2 < fHead bs ∨ 1500 < num bs 2 2 ∨ bs.length < num bs 2 2 then 5 else if (num bs 10 2 : Int) ≠ (fx0 bs).sum (fo0 bs) (num bs 2 2 - fHead bs) then 6 else 0
def frx (bs : List UInt8) : Fh := if frc bs = 0 then fx0 bs else Fh.zero
def fro (bs : List UInt8) : List UInt8 := if frc bs = 0 then fo0 bs else []
def frb (bs : List UInt8) : List UInt8 := if frc bs = 0 then fb0 bs else []
def frr (bs : List UInt8) : List UInt8 := if frc bs = 0 then bs.drop (num bs 2 2) else []
theorem num_lt1 (bs : List UInt8) (k : Nat) : num bs k 1 < 256 := by
  have h1 := be_lt ((bs.drop k).take 1)
  have h2 : 256 ^ ((bs.drop k).take 1).length ≤ 256 ^ 1 := Nat.pow_le_pow_right (by omega) (List.length_take_le _ _)
  unfold num
  omega

/-- What reading leaves: the packet, its options and body, the rest, the code; all in memory of its own. -/
def FROut (bs : List UInt8) (w : World) (e : Ending) (w' : World) : Prop :=
  ∃ A c D d E g, e = .returned (.tuple #[.agg #[.int .i64 (frx bs).dscp, .int .i64 (frx bs).ecn, .int .i64 (frx bs).id, .int .i64 (frx bs).flags, .int .i64 (frx bs).frag, .int .i64 (frx bs).ttl, .int .i64 (frx bs).proto, .int .i64 (frx bs).src.k, .int .i64 (frx bs).src.a, .int .i64 (frx bs).src.b, .int .i64 (frx bs).src.c, .int .i64 (frx bs).src.d, .int .i64 (frx bs).dst.k, .int .i64 (frx bs).dst.a, .int .i64 (frx bs).dst.b, .int .i64 (frx bs).dst.c, .int .i64 (frx bs).dst.d, .slice A (fro bs).length c, .slice D (frb bs).length d], .slice E (frr bs).length g, .int .i64 (frc bs)]) ∧
    w'.ownsRow w.heap.size 5 1 (.slice A (fro bs).length c) (fro bs).length (cellsOf (fro bs)) ∧ w'.ownsRow w.heap.size 5 1 (.slice D (frb bs).length d) (frb bs).length (cellsOf (frb bs)) ∧
    w'.ownsRow w.heap.size 5 1 (.slice E (frr bs).length g) (frr bs).length (cellsOf (frr bs)) ∧
    (∀ k, (Value.slice A (fro bs).length c).ownBlock = some k → (Value.slice D (frb bs).length d).ownBlock ≠ some k) ∧ (∀ k, (Value.slice A (fro bs).length c).ownBlock = some k → (Value.slice E (frr bs).length g).ownBlock ≠ some k) ∧
    (∀ k, (Value.slice D (frb bs).length d).ownBlock = some k → (Value.slice E (frr bs).length g).ownBlock ≠ some k) ∧ Below w.heap.size w w'
theorem frOut_no {bs : List UInt8} {k : Int} (h : frc bs = k) (hk : k ≠ 0) {w w' : World} (hb : Below w.heap.size w w') : FROut bs w (.returned (.tuple #[.agg #[.int .i64 Fh.zero.dscp, .int .i64 Fh.zero.ecn, .int .i64 Fh.zero.id, .int .i64 Fh.zero.flags, .int .i64 Fh.zero.frag, .int .i64 Fh.zero.ttl, .int .i64 Fh.zero.proto, .int .i64 Fh.zero.src.k, .int .i64 Fh.zero.src.a, .int .i64 Fh.zero.src.b, .int .i64 Fh.zero.src.c, .int .i64 Fh.zero.src.d, .int .i64 Fh.zero.dst.k, .int .i64 Fh.zero.dst.a, .int .i64 Fh.zero.dst.b, .int .i64 Fh.zero.dst.c, .int .i64 Fh.zero.dst.d, .slice none 0 0, .slice none 0 0], .slice none 0 0, .int .i64 k])) w' := by
  have e1 : frx bs = Fh.zero := by simp [frx, h, hk]
  have e2 : fro bs = [] := by simp [fro, h, hk]
  have e3 : frb bs = [] := by simp [frb, h, hk]
  have e4 : frr bs = [] := by simp [frr, h, hk]
  unfold FROut
  rw [e1, e2, e3, e4, h]
  exact ⟨none, 0, none, 0, none, 0, rfl, ⟨rfl, .inl ⟨rfl, rfl⟩⟩, ⟨rfl, .inl ⟨rfl, rfl⟩⟩, ⟨rfl, .inl ⟨rfl, rfl⟩⟩, (fun _ h => by cases h), (fun _ h => by cases h), (fun _ h => by cases h), hb⟩
theorem frOut_yes {bs : List UInt8} {x : Fh} {os ds rs : List UInt8} {n m l : Nat} (h : frc bs = 0) (hx : fx0 bs = x) (ho : fo0 bs = os) (hd : fb0 bs = ds) (hr : bs.drop (num bs 2 2) = rs) (hn : os.length = n) (hm : ds.length = m) (hl : rs.length = l) {w w' : World} {A D E : Option Addr} {c d g : Nat}
    (oA : w'.ownsRow w.heap.size 5 1 (.slice A n c) n (cellsOf os)) (oD : w'.ownsRow w.heap.size 5 1 (.slice D m d) m (cellsOf ds)) (oE : w'.ownsRow w.heap.size 5 1 (.slice E l g) l (cellsOf rs))
    (h1 : ∀ k, (Value.slice A n c).ownBlock = some k → (Value.slice D m d).ownBlock ≠ some k) (h2 : ∀ k, (Value.slice A n c).ownBlock = some k → (Value.slice E l g).ownBlock ≠ some k) (h3 : ∀ k, (Value.slice D m d).ownBlock = some k → (Value.slice E l g).ownBlock ≠ some k)
    (hb : Below w.heap.size w w') : FROut bs w (.returned (.tuple #[.agg #[.int .i64 x.dscp, .int .i64 x.ecn, .int .i64 x.id, .int .i64 x.flags, .int .i64 x.frag, .int .i64 x.ttl, .int .i64 x.proto, .int .i64 x.src.k, .int .i64 x.src.a, .int .i64 x.src.b, .int .i64 x.src.c, .int .i64 x.src.d, .int .i64 x.dst.k, .int .i64 x.dst.a, .int .i64 x.dst.b, .int .i64 x.dst.c, .int .i64 x.dst.d, .slice A n c, .slice D m d], .slice E l g, .int .i64 0])) w' := by
  have e1 : frx bs = x := by simp [frx, h, hx]
  have e2 : fro bs = os := by simp [fro, h, ho]
  have e3 : frb bs = ds := by simp [frb, h, hd]
  have e4 : frr bs = rs := by simp [frr, h, hr]
  unfold FROut
  rw [e1, e2, e3, e4, h, hn, hm, hl]
  exact ⟨A, c, D, d, E, g, rfl, oA, oD, oE, h1, h2, h3, hb⟩
end Go.Proofs.Ytkmijefheejcjaa

namespace Go.Proofs.Ytkmijefheejcjaa
set_option maxRecDepth 100000
open Go.RowKit

end Go.Proofs.Ytkmijefheejcjaa

namespace Go.Proofs.Ytkmijefheejcjaa
set_option maxRecDepth 100000
open Go.RowKit









end Go.Proofs.Ytkmijefheejcjaa

namespace Go.Proofs.Ytkmijefheejcjaa
set_option maxRecDepth 100000
open Go.RowKit





end Go.Proofs.Ytkmijefheejcjaa

namespace Go.Proofs.Ytkmijefheejcjaa
set_option maxRecDepth 100000
open Go.RowKit



end Go.Proofs.Ytkmijefheejcjaa
