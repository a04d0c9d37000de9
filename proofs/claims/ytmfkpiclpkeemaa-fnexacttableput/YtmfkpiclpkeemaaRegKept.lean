/-
  A region that draws its order, by what each of its operations leaves: whatever order is drawn, each operation finds what those leave on which it waits. Plain: any program.
-/
import Derived.Orders
import Derived.Test.YtmfkpiclpkeemaaBase
namespace Go.Proofs.Ytmfkpiclpkeemaa
set_option maxRecDepth 100000
open Go.RowKit

section
variable {P : Program} {ops : Array Oper} {Q : Exit → Act → World → Prop}

/-- The operations on which operation j waits, with their slots. -/
def needOf (ops : Array Oper) (j : Nat) : List (Nat × Nat) :=
  match ops[j]? with
  | none => []
  | some o => o.after.toList.filterMap fun e => if Region.binds .any e then ((ops[e.on]?).bind (·.dst)).map fun d => (e.on, d) else none
theorem needOf_spec {j : Nat} {o : Oper} (ho : ops[j]? = some o) {p : Nat × Nat} (hp : p ∈ needOf ops j) :
    (∃ e ∈ o.after, e.on = p.1 ∧ Region.binds .any e = true) ∧ ∃ oj, ops[p.1]? = some oj ∧ oj.dst = some p.2 := by
  unfold needOf at hp
  rw [ho] at hp
  obtain ⟨e, he, hq⟩ := List.mem_filterMap.1 hp
  split at hq
  · rename_i hb
    rw [Option.map_eq_some_iff] at hq
    obtain ⟨d, hd, rfl⟩ := hq
    rw [Option.bind_eq_some_iff] at hd
    obtain ⟨oj, h1, h2⟩ := hd
    exact ⟨⟨e, by simpa using he, rfl, hb⟩, oj, h1, h2⟩
  · cases hq

/-- What is asked of the region's form: each operation waits for earlier ones alone, none is guarded, its slots are its own and none of those that stand outside. -/
def formB (ops : Array Oper) (n : Nat) (out : List Nat) : Bool :=
  (List.range ops.size).all fun j => match ops[j]? with
    | none => true
    | some o => o.after.all (fun e => !Region.binds .any e || decide (e.on < j)) && o.guard.isNone && (match o.dst with
      | none => true
      | some d => decide (d < n) && !out.contains d && (List.range ops.size).all fun i => decide (i = j) || decide ((ops[i]?).bind (·.dst) ≠ some d))
theorem formB_at {n : Nat} {out : List Nat} (h : formB ops n out = true) {j : Nat} {o : Oper} (ho : ops[j]? = some o) :
    (∀ e ∈ o.after, Region.binds .any e = true → e.on < j) ∧ o.guard = none ∧ ∀ d, o.dst = some d → d < n ∧ d ∉ out ∧ ∀ i oi, ops[i]? = some oi → oi.dst = some d → i = j := by
  have hj : j < ops.size := (Array.getElem?_eq_some_iff.1 ho).1
  have h1 := List.all_eq_true.1 h j (List.mem_range.2 hj)
  rw [ho] at h1
  simp only [Bool.and_eq_true] at h1
  refine ⟨fun e he hb => ?_, ?_, fun d hd => ?_⟩
  · have := Array.all_eq_true_iff_forall_mem.1 h1.1.1 e he
    simpa [hb] using this
  · simpa using h1.1.2
  · have h2 := h1.2
    rw [hd] at h2
    simp only [Bool.and_eq_true, decide_eq_true_eq, Bool.not_eq_true', List.contains_eq_mem, decide_eq_false_iff_not] at h2
    refine ⟨h2.1.1, h2.1.2, fun i oi hi hdi => ?_⟩
    have hil : i < ops.size := (Array.getElem?_eq_some_iff.1 hi).1
    have h3 := List.all_eq_true.1 h2.2 i (List.mem_range.2 hil)
    rw [hi] at h3
    simp only [Option.bind_some, hdi, ne_eq, not_true, decide_false, Bool.or_false, decide_eq_true_eq] at h3
    exact h3

theorem put_other (a : Act) {dst : Option Tmp} {t : Nat} (v : Value) (h : dst ≠ some t) : (a.put dst v).tmps.getD t undef = a.tmps.getD t undef := by
  cases dst with
  | none => rfl
  | some d =>
    have hne : d ≠ t := fun e => h (by rw [e])
    simp [Act.put, Array.getElem?_setIfInBounds_ne hne]
theorem put_own (a : Act) {d n : Nat} (v : Value) (h : d < n) (hn : a.tmps.size = n) : (a.put (some d) v).tmps.getD d undef = v := by
  subst hn
  simp [Act.put, h]
theorem put_size (a : Act) (dst : Option Tmp) (v : Value) : (a.put dst v).tmps.size = a.tmps.size := by
  cases dst with
  | none => rfl
  | some d => simp [Act.put]
theorem put_defers' (a : Act) (dst : Option Tmp) (v : Value) : (a.put dst v).defers = a.defers := by
  cases dst <;> rfl

/-- How many have come up. -/
def up (listed : Array Bool) : Nat := listed.toList.count true
theorem up_set {listed : Array Bool} {i : Nat} (h : listed.getD i true = false) : up (listed.setIfInBounds i true) = up listed + 1 ∧ i < listed.size := by
  have hi : i < listed.size := by
    by_cases hi : i < listed.size
    · exact hi
    · simp [hi] at h
  refine ⟨?_, hi⟩
  have hg : listed[i] = false := by simpa [hi] using h
  have hl : i < listed.toList.length := hi
  unfold up
  rw [Array.toList_setIfInBounds, List.count_set hl]
  have hg2 : listed.toList[i] = false := hg
  rw [hg2]
  simp
theorem up_all {listed : Array Bool} (h : up listed = listed.size) {i : Nat} (hi : i < listed.size) : listed.getD i false = true := by
  have h2 : listed.toList.count true = listed.toList.length := by simpa [up] using h
  have h3 := List.count_eq_length.1 h2 listed[i] (by simp)
  have : listed[i] = true := h3.symm
  simp [hi, this]
theorem up_le (listed : Array Bool) : up listed ≤ listed.size := by
  have := List.count_le_length (a := true) (l := listed.toList)
  simpa [up] using this

/-- What stands while the region runs. -/
structure Kept (ops : Array Oper) (Γ : Nat → World → Value → Prop) (out : List Nat) (I : Nat → World → Prop) (n : Nat) (a0 : Act) (listed : Array Bool) (a : Act) (w : World) : Prop where
  size : listed.size = ops.size
  len : a.tmps.size = n
  defers : a.defers = a0.defers
  keep : ∀ t, (∀ (j : Nat) o, ops[j]? = some o → o.dst ≠ some t) → a.tmps.getD t undef = a0.tmps.getD t undef
  inv : I (up listed) w
  slots : ∀ (j : Nat) o d, ops[j]? = some o → o.dst = some d → listed.getD j false = true → Γ j w (a.tmps.getD d undef)

theorem some_ready {n : Nat} {out : List Nat} (hf : formB ops n out = true) {listed : Array Bool} (hs : listed.size = ops.size) (hr : Region.ready .any ops listed = []) : up listed = ops.size := by
  have hall : ∀ j, j < ops.size → listed.getD j false = true := by
    intro j
    induction j using Nat.strongRecOn with
    | ind j ih =>
      intro hj
      obtain ⟨o, ho⟩ : ∃ o, ops[j]? = some o := ⟨_, Array.getElem?_eq_getElem hj⟩
      cases hg : listed.getD j false
      · have hm : j ∈ Region.ready .any ops listed := by
          refine mem_ready.2 ⟨?_, o, ho, fun e he hb => ?_⟩
          · have hj2 : j < listed.size := by omega
            simpa [hj2] using hg
          · have := (formB_at hf ho).1 e he hb
            exact ih e.on this (by omega)
        rw [hr] at hm
        cases hm
      · rfl
  have h1 : listed.toList.count true = listed.toList.length := List.count_eq_length.2 fun b hb => by
    obtain ⟨i, hi, rfl⟩ := List.getElem_of_mem hb
    have hi2 : i < listed.size := by simpa using hi
    have := hall i (by omega)
    simpa [hi2] using this.symm
  simpa [up, hs] using h1

theorem wpAny_kept {Γ : Nat → World → Value → Prop} {out : List Nat} {I : Nat → World → Prop} {R : World → World → Prop} {n : Nat} {a0 : Act} (hf : formB ops n out = true)
    (hΓ : ∀ j w w' v, R w w' → Γ j w v → Γ j w' v)
    (hop : ∀ (j : Nat) o, ops[j]? = some o → ∀ k a w K, (∀ t ∈ out, a.tmps.getD t undef = a0.tmps.getD t undef) → (∀ p ∈ needOf ops j, Γ p.1 w (a.tmps.getD p.2 undef)) → k < ops.size → I k w →
      (∀ v w', Γ j w' v → R w w' → I (k + 1) w' → K (a.put o.dst v) w') → o.wp P a w K Q)
    (hend : ∀ a w, a.tmps.size = n → a.defers = a0.defers → (∀ t ∈ out, a.tmps.getD t undef = a0.tmps.getD t undef) → (∀ t, (∀ (j : Nat) o, ops[j]? = some o → o.dst ≠ some t) → a.tmps.getD t undef = a0.tmps.getD t undef) →
      (∀ (j : Nat) o d, ops[j]? = some o → o.dst = some d → Γ j w (a.tmps.getD d undef)) → I ops.size w → Q .normal a w) :
    ∀ (fuel : Nat) (listed : Array Bool) (a : Act) (w : World), Kept ops Γ out I n a0 listed a w → ops.size ≤ up listed + fuel → wpAny P .any ops Q fuel listed a w := by
  have fin : ∀ (listed : Array Bool) (a : Act) (w : World), Kept ops Γ out I n a0 listed a w → up listed = ops.size → Q .normal a w := by
    intro listed a w hk hu
    refine hend a w hk.len hk.defers (fun t ht => hk.keep t (fun j oj hj hdj => ((formB_at hf hj).2.2 t hdj).2.1 ht)) hk.keep (fun j o d ho hd => hk.slots j o d ho hd ?_) (hu ▸ hk.inv)
    have hj : j < ops.size := (Array.getElem?_eq_some_iff.1 ho).1
    exact up_all (by rw [hu, hk.size]) (by rw [hk.size]; exact hj)
  intro fuel
  induction fuel with
  | zero =>
    intro listed a w hk hle
    have hu : up listed = ops.size := by have := up_le listed; have := hk.size; omega
    refine ⟨?_, fin listed a w hk hu⟩
    cases hr : Region.ready .any ops listed with
    | nil => rfl
    | cons i l =>
      have hm : i ∈ Region.ready .any ops listed := by rw [hr]; simp
      obtain ⟨h0, _⟩ := mem_ready.1 hm
      have := (up_set h0).1
      have h3 := up_le (listed.setIfInBounds i true)
      have h4 : (listed.setIfInBounds i true).size = listed.size := by simp
      have := hk.size
      omega
  | succ fuel ih =>
    intro listed a w hk hle
    refine ⟨fun hr => fin listed a w hk (some_ready hf hk.size hr), fun i hi => ?_⟩
    obtain ⟨h0, o, ho, hall⟩ := mem_ready.1 hi
    obtain ⟨hu, hil⟩ := up_set h0
    obtain ⟨hlt, hg, hd⟩ := formB_at hf ho
    unfold wpOp
    simp only [ho]
    rw [if_pos (by simp [Region.wanted, hg])]
    left
    refine hop i o ho (up listed) a w _ (fun t ht => hk.keep t (fun j oj hj hdj => ?_)) (fun p hp => ?_) (by have := hk.size; have := up_le (listed.setIfInBounds i true); simp at this; omega) hk.inv ?_
    · exact ((formB_at hf hj).2.2 t hdj).2.1 ht
    · obtain ⟨⟨e, he, hep, hb⟩, oj, hoj, hdj⟩ := needOf_spec ho hp
      exact hk.slots p.1 oj p.2 hoj hdj (by rw [← hep]; exact hall e he hb)
    · intro v w' hv hR hI
      refine ih _ _ _ ⟨by simpa using hk.size, by rw [put_size]; exact hk.len, by rw [put_defers']; exact hk.defers, fun t ht => ?_, by rw [hu]; exact hI, fun j oj d hj hdj hl => ?_⟩ (by omega)
      · rw [put_other a v (ht i o ho)]
        exact hk.keep t ht
      · by_cases hji : j = i
        · subst hji
          obtain rfl : o = oj := Option.some.inj (ho.symm.trans hj)
          rw [hdj, put_own a v (hd d hdj).1 hk.len]
          exact hv
        · have hne : o.dst ≠ some d := fun e => hji ((hd d e).2.2 j oj hj hdj)
          rw [put_other a v hne]
          refine hΓ j w w' _ hR (hk.slots j oj d hj hdj ?_)
          rw [← getD_set_ne (listed := listed) false (Ne.symm hji)]
          exact hl

theorem wp_region_kept {id : Nat} {a : Act} {w : World} (hm : P.follows .mixedOrders = true) (Γ : Nat → World → Value → Prop) (out : List Nat) (I : Nat → World → Prop) (R : World → World → Prop) (n : Nat) (hf : formB ops n out = true)
    (hn : a.tmps.size = n) (h0 : I 0 { w with drawn := w.drawn + 1 }) (hΓ : ∀ j w w' v, R w w' → Γ j w v → Γ j w' v)
    (hop : ∀ (j : Nat) o, ops[j]? = some o → ∀ k a' w K, (∀ t ∈ out, a'.tmps.getD t undef = a.tmps.getD t undef) → (∀ p ∈ needOf ops j, Γ p.1 w (a'.tmps.getD p.2 undef)) → k < ops.size → I k w →
      (∀ v w', Γ j w' v → R w w' → I (k + 1) w' → K (a'.put o.dst v) w') → o.wp P a' w K Q)
    (hend : ∀ a' w', a'.tmps.size = n → a'.defers = a.defers → (∀ t ∈ out, a'.tmps.getD t undef = a.tmps.getD t undef) → (∀ t, (∀ (j : Nat) o, ops[j]? = some o → o.dst ≠ some t) → a'.tmps.getD t undef = a.tmps.getD t undef) →
      (∀ (j : Nat) o d, ops[j]? = some o → o.dst = some d → Γ j w' (a'.tmps.getD d undef)) → I ops.size w' → Q .normal a' w') : (Code.region id ops true).wp P Q a w := by
  refine wp_region_any hm (wpAny_kept (out := out) (I := I) (R := R) (Γ := Γ) (n := n) (a0 := a) hf hΓ hop hend ops.size _ a _ ⟨by simp, hn, rfl, fun _ _ => rfl, ?_, fun j o d _ _ hl => ?_⟩ (by omega))
  · have : up (Array.replicate ops.size false) = 0 := by simp [up, List.count_replicate]
    rw [this]
    exact h0
  · simp [Array.getElem?_replicate] at hl
    split at hl <;> simp at hl
end
end Go.Proofs.Ytmfkpiclpkeemaa
