/-
  A region that draws its order, the first k operations of which may come up in any order, and the others only behind all of them and in their own order: the first ones by what each of them leaves, the others as a list. Plain: any program. A region that draws its order, the first operations of which leave a value each, or a slice of bytes that can be read, and touch nothing that was there before; the others follow in their order. Plain: any program. Single operations of a region, each by what it leaves. The head of an IPv4 packet, in the program.
-/
import Derived.Test.YtegpaocoepcemaaRegKept
import Derived.Test.YtegpaocoepcemaaBytesOf
import Derived.Test.YtegpaocoepcemaaSixReg
import Derived.Test.YtegpaocoepcemaaFourHead
namespace Go.Proofs.Ytegpaocoepcemaa
set_option maxRecDepth 100000
open Go.RowKit

section
variable {P : Program} {ops : Array Oper} {Q : Exit → Act → World → Prop}

/-- The operations on which operation j waits. -/
def depsOf (ops : Array Oper) (j : Nat) : List Nat :=
  match ops[j]? with
  | none => []
  | some o => o.after.toList.filterMap fun e => if Region.binds .any e then some e.on else none
theorem depsOf_spec {j i : Nat} (h : i ∈ depsOf ops j) : ∃ o, ops[j]? = some o ∧ ∃ e ∈ o.after, e.on = i ∧ Region.binds .any e = true := by
  unfold depsOf at h
  split at h
  · cases h
  · rename_i o ho
    obtain ⟨e, he, hq⟩ := List.mem_filterMap.1 h
    split at hq
    · rename_i hb
      exact ⟨o, ho, e, by simpa using he, Option.some.inj hq, hb⟩
    · cases hq
/-- Those on which the operations of M below i wait, and so on. -/
def markOf (ops : Array Oper) : Nat → List Nat → List Nat
  | 0, M => M
  | i + 1, M => markOf ops i (if M.contains i then depsOf ops i ++ M else M)
theorem markOf_spec (S : Nat → Prop) (hS : ∀ j i, S j → i ∈ depsOf ops j → S i) : ∀ (i : Nat) (M : List Nat), (∀ j ∈ M, S j) → ∀ j ∈ markOf ops i M, S j
  | 0, _, h, j, hj => h j hj
  | i + 1, M, h, j, hj => by
    refine markOf_spec S hS i _ (fun l hl => ?_) j hj
    split at hl
    · rename_i hc
      rcases List.mem_append.1 hl with hl | hl
      · exact hS i l (h i (by simpa using hc)) hl
      · exact h l hl
    · exact h l hl

/-- What is asked of the region's form. -/
def thenB (ops : Array Oper) (n k : Nat) : Bool :=
  decide (k < ops.size) && ((List.range k).all fun j => (markOf ops (k + 1) [k]).contains j) && ((List.range ops.size).all fun j => match ops[j]? with
    | none => true
    | some o => o.after.all (fun e => !Region.binds .any e || decide (e.on < j)) && (if j < k then o.guard.isNone && (match o.dst with
        | none => true
        | some d => decide (d < n) && (List.range k).all fun i => decide (i = j) || decide ((ops[i]?).bind (·.dst) ≠ some d))
      else decide (j = k) || (depsOf ops j).contains (j - 1)))
theorem thenB_at {n k : Nat} (h : thenB ops n k = true) {j : Nat} {o : Oper} (ho : ops[j]? = some o) :
    (∀ e ∈ o.after, Region.binds .any e = true → e.on < j) ∧ (j < k → o.guard = none ∧ ∀ d, o.dst = some d → d < n ∧ ∀ i oi, i < k → ops[i]? = some oi → oi.dst = some d → i = j) ∧ (k < j → j - 1 ∈ depsOf ops j) := by
  have hj : j < ops.size := (Array.getElem?_eq_some_iff.1 ho).1
  simp only [thenB, Bool.and_eq_true] at h
  have h1 := List.all_eq_true.1 h.2 j (List.mem_range.2 hj)
  rw [ho] at h1
  simp only [Bool.and_eq_true] at h1
  refine ⟨fun e he hb => ?_, fun hjk => ?_, fun hkj => ?_⟩
  · have := Array.all_eq_true_iff_forall_mem.1 h1.1 e he
    simpa [hb] using this
  · have h2 := h1.2
    rw [if_pos hjk] at h2
    simp only [Bool.and_eq_true] at h2
    refine ⟨by simpa using h2.1, fun d hd => ?_⟩
    have h3 := h2.2
    rw [hd] at h3
    simp only [Bool.and_eq_true, decide_eq_true_eq] at h3
    refine ⟨h3.1, fun i oi hik hi hdi => ?_⟩
    have h4 := List.all_eq_true.1 h3.2 i (List.mem_range.2 hik)
    rw [hi] at h4
    simp only [Option.bind_some, hdi, ne_eq, not_true, decide_false, Bool.or_false, decide_eq_true_eq] at h4
    exact h4
  · have h2 := h1.2
    rw [if_neg (by omega)] at h2
    simp only [Bool.or_eq_true, decide_eq_true_eq, List.contains_eq_mem] at h2
    rcases h2 with h2 | h2
    · omega
    · exact h2
theorem thenB_all {n k : Nat} (h : thenB ops n k = true) (S : Nat → Prop) (hS : ∀ j i, S j → i ∈ depsOf ops j → S i) (hk : S k) : k < ops.size ∧ ∀ j, j < k → S j := by
  simp only [thenB, Bool.and_eq_true, decide_eq_true_eq] at h
  refine ⟨h.1.1, fun j hj => ?_⟩
  have h1 := List.all_eq_true.1 h.1.2 j (List.mem_range.2 hj)
  exact markOf_spec S hS (k + 1) [k] (fun l hl => by simp only [List.mem_singleton] at hl; subst hl; exact hk) j (by simpa using h1)

/-- The last operations, in their order. -/
theorem wpAny_tail {n k : Nat} (hf : thenB ops n k = true) : ∀ (fuel q : Nat) (listed : Array Bool) (a : Act) (w : World), k ≤ q → q ≤ ops.size → listed.size = ops.size → (∀ i, i < ops.size → (listed.getD i false = true ↔ i < q)) → ops.size ≤ q + fuel →
    wpList P ops Q (ops.toList.drop q) a w → wpAny P .any ops Q fuel listed a w := by
  have only : ∀ (q : Nat) (listed : Array Bool), k ≤ q → listed.size = ops.size → (∀ i, i < ops.size → (listed.getD i false = true ↔ i < q)) → ∀ i, i ∈ Region.ready .any ops listed → i = q ∧ q < ops.size := by
    intro q listed hkq hs hl i hi
    obtain ⟨h0, o, ho, hall⟩ := mem_ready.1 hi
    have hi2 : i < ops.size := (Array.getElem?_eq_some_iff.1 ho).1
    have hi3 : i < listed.size := by omega
    have hif : listed.getD i false = false := by simpa [hi3] using h0
    have h1 : ¬ i < q := fun h => by rw [(hl i hi2).2 h] at hif; cases hif
    rcases Nat.lt_or_ge q i with h | h
    · obtain ⟨o', ho', e, he, heq, hb⟩ := depsOf_spec ((thenB_at hf ho).2.2 (by omega))
      obtain rfl : o = o' := Option.some.inj (ho.symm.trans ho')
      have := hall e he hb
      rw [heq] at this
      have := (hl (i - 1) (by omega)).1 this
      omega
    · exact ⟨by omega, by omega⟩
  intro fuel
  induction fuel with
  | zero =>
    intro q listed a w hkq hq hs hl hle hw
    refine ⟨?_, ?_⟩
    · cases hr : Region.ready .any ops listed with
      | nil => rfl
      | cons i l =>
        have := only q listed hkq hs hl i (by rw [hr]; simp)
        omega
    · rw [List.drop_eq_nil_of_le (by simp; omega)] at hw
      exact hw
  | succ fuel ih =>
    intro q listed a w hkq hq hs hl hle hw
    refine ⟨fun hr => ?_, fun i hi => ?_⟩
    · rcases Nat.lt_or_ge q ops.size with h | h
      · exfalso
        obtain ⟨o, ho⟩ : ∃ o, ops[q]? = some o := ⟨_, Array.getElem?_eq_getElem h⟩
        have hm : q ∈ Region.ready .any ops listed := by
          refine mem_ready.2 ⟨?_, o, ho, fun e he hb => ?_⟩
          · have h2 : q < listed.size := by omega
            have h3 : listed.getD q false = false := by
              cases hg : listed.getD q false
              · rfl
              · have := (hl q h).1 hg
                omega
            simpa [h2] using h3
          · have := (thenB_at hf ho).1 e he hb
            exact (hl e.on (by omega)).2 this
        rw [hr] at hm
        cases hm
      · rw [List.drop_eq_nil_of_le (by simp; omega)] at hw
        exact hw
    · obtain ⟨rfl, hlt⟩ := only q listed hkq hs hl i hi
      have ho : ops[i]? = some ops[i] := Array.getElem?_eq_getElem hlt
      have e : ops.toList.drop i = ops[i] :: ops.toList.drop (i + 1) := by
        rw [List.drop_eq_getElem_cons (by simpa using hlt)]
        simp
      rw [e] at hw
      have next : ∀ a' w', wpList P ops Q (ops.toList.drop (i + 1)) a' w' → wpAny P .any ops Q fuel (listed.setIfInBounds i true) a' w' := by
        intro a' w' h
        refine ih (i + 1) _ a' w' (by omega) (by omega) (by simpa using hs) (fun j hj => ?_) (by omega) h
        by_cases hji : j = i
        · subst hji
          simp [hs, hj]
        · rw [getD_set_ne (listed := listed) false (Ne.symm hji), hl j hj]
          omega
      unfold wpOp
      simp only [ho]
      unfold wpList at hw
      split
      · rename_i hwn
        rw [if_pos hwn] at hw
        rcases hw with hw | hw
        · exact .inl (Oper.wp_mono next hw)
        · exact .inr hw
      · rename_i hwn
        rw [if_neg hwn] at hw
        exact next _ _ hw

/-- What stands while the first operations run. -/
structure KeptT (ops : Array Oper) (Γ : Nat → World → Value → Prop) (I : World → Prop) (n k : Nat) (a0 : Act) (listed : Array Bool) (a : Act) (w : World) : Prop where
  size : listed.size = ops.size
  len : a.tmps.size = n
  defers : a.defers = a0.defers
  keep : ∀ t, (∀ (j : Nat) o, j < k → ops[j]? = some o → o.dst ≠ some t) → a.tmps.getD t undef = a0.tmps.getD t undef
  none : ∀ i, k ≤ i → listed.getD i false = false
  closed : ∀ j, listed.getD j false = true → ∀ i ∈ depsOf ops j, listed.getD i false = true
  inv : I w
  slots : ∀ (j : Nat) o d, j < k → ops[j]? = some o → o.dst = some d → listed.getD j false = true → Γ j w (a.tmps.getD d undef)

theorem wpAny_then {Γ : Nat → World → Value → Prop} {I : World → Prop} {n k : Nat} {a0 : Act} (hf : thenB ops n k = true)
    (hop : ∀ (j : Nat) o, j < k → ops[j]? = some o → ∀ a w K, (∀ t, (∀ (j : Nat) o, j < k → ops[j]? = some o → o.dst ≠ some t) → a.tmps.getD t undef = a0.tmps.getD t undef) → (∀ p ∈ needOf ops j, Γ p.1 w (a.tmps.getD p.2 undef)) → I w →
      (∀ v w', Γ j w' v → (∀ i u, Γ i w u → Γ i w' u) → I w' → K (a.put o.dst v) w') → o.wp P a w K Q)
    (hend : ∀ a w, a.tmps.size = n → a.defers = a0.defers → (∀ t, (∀ (j : Nat) o, j < k → ops[j]? = some o → o.dst ≠ some t) → a.tmps.getD t undef = a0.tmps.getD t undef) →
      (∀ (j : Nat) o d, j < k → ops[j]? = some o → o.dst = some d → Γ j w (a.tmps.getD d undef)) → I w → wpList P ops Q (ops.toList.drop k) a w) :
    ∀ (fuel : Nat) (listed : Array Bool) (a : Act) (w : World), KeptT ops Γ I n k a0 listed a w → ops.size ≤ up listed + fuel → wpAny P .any ops Q fuel listed a w := by
  have hks : k < ops.size := by
    simp only [thenB, Bool.and_eq_true, decide_eq_true_eq] at hf
    exact hf.1.1
  have notall : ∀ (listed : Array Bool) (a : Act) (w : World), KeptT ops Γ I n k a0 listed a w → up listed = ops.size → False := by
    intro listed a w hk hu
    have := up_all (listed := listed) (by rw [hu, hk.size]) (i := k) (by rw [hk.size]; exact hks)
    rw [hk.none k (Nat.le_refl _)] at this
    cases this
  have nostop : ∀ (listed : Array Bool) (a : Act) (w : World), KeptT ops Γ I n k a0 listed a w → Region.ready .any ops listed = [] → False := by
    intro listed a w hk hr
    have hall : ∀ j, j < ops.size → listed.getD j false = true := by
      intro j
      induction j using Nat.strongRecOn with
      | ind j ih =>
        intro hj
        obtain ⟨o, ho⟩ : ∃ o, ops[j]? = some o := ⟨_, Array.getElem?_eq_getElem hj⟩
        cases hg : listed.getD j false
        · have hm : j ∈ Region.ready .any ops listed := by
            refine mem_ready.2 ⟨?_, o, ho, fun e he hb => ?_⟩
            · have hj2 : j < listed.size := by rw [hk.size]; exact hj
              simpa [hj2] using hg
            · have := (thenB_at hf ho).1 e he hb
              exact ih e.on this (by omega)
          rw [hr] at hm
          cases hm
        · rfl
    have := hall k hks
    rw [hk.none k (Nat.le_refl _)] at this
    cases this
  intro fuel
  induction fuel with
  | zero =>
    intro listed a w hk hle
    exact (notall listed a w hk (by have := up_le listed; have := hk.size; omega)).elim
  | succ fuel ih =>
    intro listed a w hk hle
    refine ⟨fun hr => (nostop listed a w hk hr).elim, fun i hi => ?_⟩
    obtain ⟨h0, o, ho, hall⟩ := mem_ready.1 hi
    obtain ⟨hu, hil⟩ := up_set h0
    obtain ⟨hlt, hd, htail⟩ := thenB_at hf ho
    rcases Nat.lt_trichotomy i k with hik | hik | hik
    · obtain ⟨hg, hd⟩ := hd hik
      unfold wpOp
      simp only [ho]
      rw [if_pos (by simp [Region.wanted, hg])]
      left
      refine hop i o hik ho a w _ hk.keep (fun p hp => ?_) hk.inv ?_
      · obtain ⟨⟨e, he, hep, hb⟩, oj, hoj, hdj⟩ := needOf_spec ho hp
        exact hk.slots p.1 oj p.2 (by have := hlt e he hb; omega) hoj hdj (by rw [← hep]; exact hall e he hb)
      · intro v w' hv hR hI
        refine ih _ _ _ ⟨by simpa using hk.size, by rw [put_size]; exact hk.len, by rw [put_defers']; exact hk.defers, fun t ht => ?_, fun j hj => ?_, fun j hl l hl2 => ?_, hI, fun j oj d hjk hj hdj hl => ?_⟩ (by omega)
        · rw [put_other a v (ht i o hik ho)]
          exact hk.keep t ht
        · rw [getD_set_ne (listed := listed) false (by omega)]
          exact hk.none j hj
        · by_cases hji : j = i
          · subst hji
            obtain ⟨o', ho', e, he, heq, hb⟩ := depsOf_spec hl2
            obtain rfl : o = o' := Option.some.inj (ho.symm.trans ho')
            rw [← heq, getD_set_ne (listed := listed) false (by have := hlt e he hb; omega)]
            exact hall e he hb
          · rw [getD_set_ne (listed := listed) false (Ne.symm hji)] at hl
            have := hk.closed j hl l hl2
            by_cases hli : l = i
            · subst hli
              simp [hil]
            · rw [getD_set_ne (listed := listed) false (Ne.symm hli)]
              exact this
        · by_cases hji : j = i
          · subst hji
            obtain rfl : o = oj := Option.some.inj (ho.symm.trans hj)
            rw [hdj, put_own a v (hd d hdj).1 hk.len]
            exact hv
          · have hne : o.dst ≠ some d := fun e => hji ((hd d e).2 j oj hjk hj hdj)
            rw [put_other a v hne]
            refine hR j _ (hk.slots j oj d hjk hj hdj ?_)
            rw [← getD_set_ne (listed := listed) false (Ne.symm hji)]
            exact hl
    · subst hik
      have hdone : ∀ j, j < i → listed.getD j false = true := by
        have := (thenB_all hf (fun j => listed.getD j false = true ∨ j = i) (fun j l hj hl => ?_) (.inr rfl)).2
        · intro j hj
          rcases this j hj with h | h
          · exact h
          · omega
        · rcases hj with hj | rfl
          · exact .inl (hk.closed j hj l hl)
          · obtain ⟨o', ho', e, he, heq, hb⟩ := depsOf_spec hl
            obtain rfl : o = o' := Option.some.inj (ho.symm.trans ho')
            exact .inl (heq ▸ hall e he hb)
      have hw := hend a w hk.len hk.defers hk.keep (fun j oj d hjk hj hdj => hk.slots j oj d hjk hj hdj (hdone j hjk)) hk.inv
      have hup : up listed ≤ i := by
        have h1 : up listed = (listed.toList.take i).count true + (listed.toList.drop i).count true := by
          rw [up, ← List.count_append, List.take_append_drop]
        have h2 : (listed.toList.drop i).count true = 0 := by
          rw [List.count_eq_zero]
          intro hm
          obtain ⟨q, hq, he⟩ := List.getElem_of_mem hm
          simp at hq he
          have := hk.none (i + q) (by omega)
          simp at this
          rw [Array.getElem?_eq_getElem (by omega)] at this
          simp [he] at this
        have h3 := List.count_le_length (a := true) (l := listed.toList.take i)
        simp at h3
        omega
      have T := wpAny_tail (P := P) (Q := Q) hf (fuel + 1) i listed a w (Nat.le_refl _) (by omega) hk.size (fun j hj => Iff.intro (fun h => (by
        rcases Nat.lt_or_ge j i with h2 | h2
        · exact h2
        · rw [hk.none j h2] at h
          cases h)) (fun h => hdone j h)) (by omega) hw
      exact T.2 i hi
    · exfalso
      obtain ⟨o', ho', e, he, heq, hb⟩ := depsOf_spec (htail hik)
      obtain rfl : o = o' := Option.some.inj (ho.symm.trans ho')
      have := hall e he hb
      rw [heq, hk.none (i - 1) (by omega)] at this
      cases this

/-- The first operations, with their slots. -/
def dstsOf (ops : Array Oper) (k : Nat) : List (Nat × Nat) := (List.range k).filterMap fun j => ((ops[j]?).bind (·.dst)).map fun d => (j, d)
theorem dstsOf_mem {k : Nat} {p : Nat × Nat} : p ∈ dstsOf ops k ↔ p.1 < k ∧ ∃ o, ops[p.1]? = some o ∧ o.dst = some p.2 := by
  simp only [dstsOf, List.mem_filterMap, List.mem_range, Option.map_eq_some_iff, Option.bind_eq_some_iff]
  constructor
  · rintro ⟨j, hj, d, ⟨o, h1, h2⟩, rfl⟩
    exact ⟨hj, o, h1, h2⟩
  · rintro ⟨hj, o, h1, h2⟩
    exact ⟨p.1, hj, p.2, ⟨o, h1, h2⟩, rfl⟩

theorem getD_setT (l : Array Value) (j i : Nat) (v : Value) (hj : j < l.size) : (l.setIfInBounds j v).getD i undef = if i = j then v else l.getD i undef := by
  by_cases h : i = j
  · subst h
    simp [hj]
  · rw [if_neg h]
    simp only [Array.getD_eq_getD_getElem?, Array.getElem?_setIfInBounds, Ne.symm h, if_false]
theorem ext_getDT {l m : Array Value} (hs : l.size = m.size) (h : ∀ i, l.getD i undef = m.getD i undef) : l = m := by
  apply Array.ext hs
  intro i h1 h2
  have := h i
  simpa [h1, h2] using this
/-- A frame of which all slots but some are known is the old one with these written. -/
theorem act_eqT {a a' : Act} {n : Nat} (hsz : a'.tmps.size = n) (hdf : a'.defers = a.defers) : ∀ (l : List (Nat × Nat)) (f : Nat → Value) (b : Act), b.tmps.size = n → b.defers = a.defers → (∀ p ∈ l, p.2 < n ∧ a'.tmps.getD p.2 undef = f p.1) → (∀ t, (∀ p ∈ l, p.2 ≠ t) → a'.tmps.getD t undef = b.tmps.getD t undef) → a' = l.foldl (fun b p => b.put (some p.2) (f p.1)) b
  | [], f, b, hb, hbd, _, h => by
    obtain ⟨tm, df⟩ := a'
    obtain ⟨tb, db⟩ := b
    simp only at hsz hb hbd hdf h
    subst hbd
    subst hdf
    have : tm = tb := ext_getDT (by omega) (fun i => h i (by simp))
    subst this
    rfl
  | (j, d) :: l, f, b, hb, hbd, hl, h => by
    have hd := hl (j, d) (by simp)
    refine act_eqT hsz hdf l f (b.put (some d) (f j)) (by show (b.tmps.setIfInBounds d (f j)).size = n; simp only [Array.size_setIfInBounds]; exact hb) hbd (fun p hp => hl p (by simp [hp])) (fun t ht => ?_)
    show _ = (b.tmps.setIfInBounds d (f j)).getD t undef
    rw [getD_setT _ _ _ _ (by have := hd.1; simp only at this; omega)]
    by_cases e : t = d
    · rw [if_pos e, e]
      exact hd.2
    · rw [if_neg e]
      refine h t (fun p hp => ?_)
      rcases List.mem_cons.1 hp with rfl | hp
      · exact Ne.symm e
      · exact ht p hp

/-- The region, at last: the first k operations by what each leaves, and then the frame with their values written and the rest of the list. -/
theorem wp_region_then {id : Nat} {a : Act} {w : World} (hmx : P.follows .mixedOrders = true) (k n : Nat) (L : List (Nat × Nat)) (R : List Oper) (hf : thenB ops n k = true) (hL : dstsOf ops k = L) (hR : ops.toList.drop k = R) (Γ : Nat → World → Value → Prop) (I : World → Prop) (hn : a.tmps.size = n) (h0 : I { w with drawn := w.drawn + 1 })
    (hop : ∀ (j : Nat) o, j < k → ops[j]? = some o → ∀ a' w K, (∀ t, (∀ p ∈ L, p.2 ≠ t) → a'.tmps.getD t undef = a.tmps.getD t undef) → (∀ p ∈ needOf ops j, Γ p.1 w (a'.tmps.getD p.2 undef)) → I w →
      (∀ v w', Γ j w' v → (∀ i u, Γ i w u → Γ i w' u) → I w' → K (a'.put o.dst v) w') → o.wp P a' w K Q)
    (hend : ∀ (f : Nat → Value) w', (∀ p ∈ L, Γ p.1 w' (f p.1)) → I w' → wpList P ops Q R (L.foldl (fun b p => b.put (some p.2) (f p.1)) a) w') : (Code.region id ops true).wp P Q a w := by
  subst hL
  subst hR
  have keepL : ∀ (a' : Act), (∀ t, (∀ (j : Nat) o, j < k → ops[j]? = some o → o.dst ≠ some t) → a'.tmps.getD t undef = a.tmps.getD t undef) → ∀ t, (∀ p ∈ dstsOf ops k, p.2 ≠ t) → a'.tmps.getD t undef = a.tmps.getD t undef := by
    intro a' h t ht
    refine h t (fun j o hj ho hd => ?_)
    exact ht (j, t) (dstsOf_mem.2 ⟨hj, o, ho, hd⟩) rfl
  have hfl : ∀ j, (Array.replicate ops.size false).getD j false = false := by
    intro j
    simp [Array.getElem?_replicate]
    split <;> simp
  refine wp_region_any hmx (wpAny_then (Γ := Γ) (I := I) (n := n) (a0 := a) hf (fun j o hj ho a' w' K hk hnd hI hK => hop j o hj ho a' w' K (keepL a' hk) hnd hI hK) ?_ ops.size _ a _ ⟨by simp, hn, rfl, fun _ _ => rfl, fun i _ => hfl i, fun j hl => absurd hl (by rw [hfl j]; simp), h0, fun j o d _ _ _ hl => absurd hl (by rw [hfl j]; simp)⟩ (by omega))
  intro a' w' hsz hdf hk hs hI
  have hdst : ∀ p ∈ dstsOf ops k, Γ p.1 w' (a'.tmps.getD p.2 undef) ∧ p.2 < n := by
    intro p hp
    obtain ⟨h1, o, h2, h3⟩ := dstsOf_mem.1 hp
    exact ⟨hs p.1 o p.2 h1 h2 h3, (((thenB_at hf h2).2.1 h1).2 p.2 h3).1⟩
  obtain ⟨f, hfv⟩ : ∃ f : Nat → Value, ∀ p ∈ dstsOf ops k, f p.1 = a'.tmps.getD p.2 undef := by
    refine ⟨fun j => match (ops[j]?).bind (·.dst) with | some d => a'.tmps.getD d undef | none => undef, fun p hp => ?_⟩
    obtain ⟨_, o, h2, h3⟩ := dstsOf_mem.1 hp
    simp [h2, h3]
  have E := act_eqT hsz hdf (dstsOf ops k) f a hn rfl (fun p hp => ⟨(hdst p hp).2, (hfv p hp).symm⟩) (keepL a' hk)
  rw [E]
  exact hend f w' (fun p hp => by rw [hfv p hp]; exact (hdst p hp).1) hI
end
end Go.Proofs.Ytegpaocoepcemaa

namespace Go.Proofs.Ytegpaocoepcemaa
set_option maxRecDepth 100000
open Go.RowKit

/-- What an operation leaves: a value; a slice of n bytes that reads as bs; anything. -/
inductive Fc where
  | val (v : Value)
  | rb (n : Nat) (bs : List UInt8)
  | any
def Fc.holds : Fc → World → Value → Prop
  | .val u, _, v => v = u
  | .rb n bs, w, v => ∃ A c, v = .slice A n c ∧ RB w w.heap.size A bs
  | .any, _, _ => True
theorem Fc.on {w w' : World} (hb : Below w.heap.size w w') (f : Fc) (v : Value) (h : f.holds w v) : f.holds w' v := by
  cases f with
  | val u => exact h
  | rb n bs =>
    obtain ⟨A, c, e, r⟩ := h
    exact ⟨A, c, e, (r.below hb).more hb.size⟩
  | any => trivial

section
variable {P : Program} {ops : Array Oper} {Q : Exit → Act → World → Prop}
theorem wp_region_facts {id : Nat} {a : Act} {w : World} (hmx : P.follows .mixedOrders = true) (k n : Nat) (L : List (Nat × Nat)) (R : List Oper) (F : List Fc) (hf : thenB ops n k = true) (hL : dstsOf ops k = L) (hR : ops.toList.drop k = R) (hn : a.tmps.size = n)
    (hop : ∀ (j : Nat) o, j < k → ops[j]? = some o → ∀ a' v K, (∀ t, (∀ p ∈ L, p.2 ≠ t) → a'.tmps.getD t undef = a.tmps.getD t undef) → (∀ p ∈ needOf ops j, (F.getD p.1 .any).holds v (a'.tmps.getD p.2 undef)) → Below w.heap.size w v →
      (∀ u v', (F.getD j .any).holds v' u → Below v.heap.size v v' → K (a'.put o.dst u) v') → o.wp P a' v K Q)
    (hend : ∀ (f : Nat → Value) v, (∀ p ∈ L, (F.getD p.1 .any).holds v (f p.1)) → Below w.heap.size w v → wpList P ops Q R (L.foldl (fun b p => b.put (some p.2) (f p.1)) a) v) : (Code.region id ops true).wp P Q a w := by
  refine wp_region_then hmx k n L R hf hL hR (fun j v u => (F.getD j .any).holds v u) (fun v => Below w.heap.size w v) hn ⟨rfl, rfl, rfl, Nat.le_refl _, fun _ _ => rfl⟩ ?_ (fun f v hf hB => hend f v hf hB)
  intro j o hj ho a' v K hk hnd hB hK
  exact hop j o hj ho a' v K hk hnd hB (fun u v' hu hb => hK u v' hu (fun i x hx => Fc.on hb _ _ hx) (bthen hB hb))
theorem fact_of {j : Nat} {F : List Fc} {v : World} {a' : Act} (hnd : ∀ p ∈ needOf ops j, (F.getD p.1 .any).holds v (a'.tmps.getD p.2 undef)) (i t : Nat) (h : (needOf ops j).contains (i, t) = true) : (F.getD i .any).holds v (a'.eval (.tmp t)) :=
  hnd (i, t) (by simpa using h)
end
end Go.Proofs.Ytegpaocoepcemaa

namespace Go.Proofs.Ytegpaocoepcemaa
set_option maxRecDepth 100000
open Go.RowKit

section
variable {o : Oper} {a : Act} {w : World} {K : Act → World → Prop} {Q : Exit → Act → World → Prop}
theorem u_move (x : Operand) (v : Value) (ho : o.op = .move x) (hx : a.eval x = v) (hK : K (a.put o.dst v) w) : o.wp Try.prog a w K Q := by
  unfold Oper.wp execOp
  simp only [ho, hx]
  go_simp
  exact hK
theorem u_assign (x : Operand) (v : Value) (ho : o.op = .assign x) (hx : a.eval x = v) (hK : K (a.put o.dst v) w) : o.wp Try.prog a w K Q := by
  unfold Oper.wp execOp
  simp only [ho, hx]
  go_simp
  exact hK
theorem u_lenB (x : Operand) (A : Option Addr) (n c : Nat) (ho : o.op = .call { callee := .builtin .len, args := #[x], argTypes := #[28] }) (hx : a.eval x = .slice A n c) (hK : K (a.put o.dst (.int .i64 (n : Int))) w) : o.wp Try.prog a w K Q := by
  unfold Oper.wp execOp
  simp only [ho, resolve, invoke, builtin, List.map_toArray, List.map_cons, List.map_nil, hx]
  go_simp
  exact hK
theorem u_lenX (x : Operand) (A : Option Addr) (n c : Nat) (ho : o.op = .call { callee := .builtin .len, args := #[x], argTypes := #[34] }) (hx : a.eval x = .slice A n c) (hK : K (a.put o.dst (.int .i64 (n : Int))) w) : o.wp Try.prog a w K Q := by
  unfold Oper.wp execOp
  simp only [ho, resolve, invoke, builtin, List.map_toArray, List.map_cons, List.map_nil, hx]
  go_simp
  exact hK
theorem u_add (x y : Operand) (m n : Int) (ho : o.op = .binOp .add 3 x y 3) (hx : a.eval x = .int .i64 m) (hy : a.eval y = .int .i64 n) (h0 : -4611686018427387904 ≤ m) (h1 : m ≤ 4611686018427387904) (h2 : -4611686018427387904 < n) (h3 : n < 4611686018427387904) (hK : K (a.put o.dst (.int .i64 (m + n))) w) : o.wp Try.prog a w K Q := by
  unfold Oper.wp execOp
  simp only [ho, hx, hy]
  go_simp
  rw [show IntKind.i64.wrap (m + n) = m + n by rw [IntKind.wrap_i64]; omega]
  exact hK
theorem u_sub (x y : Operand) (m n : Int) (ho : o.op = .binOp .sub 3 x y 3) (hx : a.eval x = .int .i64 m) (hy : a.eval y = .int .i64 n) (h0 : -4611686018427387904 ≤ m) (h1 : m ≤ 4611686018427387904) (h2 : -4611686018427387904 < n) (h3 : n < 4611686018427387904) (hK : K (a.put o.dst (.int .i64 (m - n))) w) : o.wp Try.prog a w K Q := by
  unfold Oper.wp execOp
  simp only [ho, hx, hy]
  go_simp
  rw [show IntKind.i64.wrap (m - n) = m - n by rw [IntKind.wrap_i64]; omega]
  exact hK
theorem u_quo8 (x y : Operand) (m : Int) (ho : o.op = .binOp .quo 3 x y 3) (hx : a.eval x = .int .i64 m) (hy : a.eval y = .int .i64 8) (h0 : 0 ≤ m) (h1 : m ≤ 4611686018427387904) (hK : K (a.put o.dst (.int .i64 (m / 8))) w) : o.wp Try.prog a w K Q := by
  unfold Oper.wp execOp
  simp only [ho, hx, hy]
  go_simp
  rw [show IntKind.i64.wrap (m.tdiv 8) = m / 8 by rw [IntKind.wrap_i64, Int.tdiv_eq_ediv_of_nonneg h0]; omega]
  exact hK
theorem u_byte (x : Operand) (m : Int) (ho : o.op = .convert 3 5 x) (hx : a.eval x = .int .i64 m) (h0 : 0 ≤ m) (h1 : m ≤ 255) (hK : K (a.put o.dst (.int .u8 m)) w) : o.wp Try.prog a w K Q := by
  unfold Oper.wp execOp
  simp only [ho, hx]
  go_simp
  rw [show IntKind.u8.wrap m = m by rw [IntKind.wrap_u8]; omega]
  exact hK
theorem u_int (x : Operand) (g j : Nat) (v : Value) (ho : o.op = .load 3 x) (hx : a.eval x = .pointer (some ⟨g, j, none⟩)) (hc : w.cell? ⟨g, j, none⟩ = some v) (hK : K (a.put o.dst v) w) : o.wp Try.prog a w K Q := by
  unfold Oper.wp execOp
  simp only [ho, hx]
  go_simp
  exact hK
theorem u_bytes (x : Operand) (g j : Nat) (v : Value) (ho : o.op = .load 28 x) (hx : a.eval x = .pointer (some ⟨g, j, none⟩)) (hc : w.cell? ⟨g, j, none⟩ = some v) (hK : K (a.put o.dst v) w) : o.wp Try.prog a w K Q := by
  unfold Oper.wp execOp
  simp only [ho, hx]
  go_simp
  exact hK
theorem u_exts (x : Operand) (g j : Nat) (v : Value) (ho : o.op = .load 34 x) (hx : a.eval x = .pointer (some ⟨g, j, none⟩)) (hc : w.cell? ⟨g, j, none⟩ = some v) (hK : K (a.put o.dst v) w) : o.wp Try.prog a w K Q := by
  unfold Oper.wp execOp
  simp only [ho, hx]
  go_simp
  exact hK
theorem u_two (x y : Operand) (m n : Int) (ho : o.op = .buildSlice 28 2 #[(0, x), (1, y)]) (hx : a.eval x = .int .u8 m) (hy : a.eval y = .int .u8 n) (hm : 0 ≤ m ∧ m < 256) (hn : 0 ≤ n ∧ n < 256)
    (hK : ∀ v w', (∃ A c, v = .slice A 2 c ∧ RB w' w'.heap.size A [byteOf m, byteOf n]) → Below w.heap.size w w' → K (a.put o.dst v) w') : o.wp Try.prog a w K Q := by
  unfold Oper.wp execOp
  simp only [ho, List.map_toArray, List.map_cons, List.map_nil, hx, hy]
  go_simp
  exact hK _ _ ⟨_, _, rfl, by have := rb_twos w m n hm hn; simpa using this⟩ (Joins.below_alloc1 w _)
theorem u_idxE (x y : Operand) (g of n c k : Nat) (ho : o.op = .indexAddr 34 x y) (hx : a.eval x = .slice (some ⟨g, of, none⟩) n c) (hy : a.eval y = .int .i64 (k : Int)) (hk : k < n) (hK : K (a.put o.dst (.pointer (some ⟨g, of + k * 2, none⟩))) w) : o.wp Try.prog a w K Q := by
  unfold Oper.wp execOp
  simp only [ho, hx, hy]
  go_simp
  exact hK
theorem u_fldS0 (x : Operand) (g : Nat) (ho : o.op = .fieldAddr 36 x 0) (hx : a.eval x = .pointer (some ⟨g, 0, none⟩)) (hK : K (a.put o.dst (.pointer (some ⟨g, 0, none⟩))) w) : o.wp Try.prog a w K Q := by
  unfold Oper.wp execOp
  simp only [ho, hx]
  go_simp
  exact hK
theorem u_fldS1 (x : Operand) (g : Nat) (ho : o.op = .fieldAddr 36 x 1) (hx : a.eval x = .pointer (some ⟨g, 0, none⟩)) (hK : K (a.put o.dst (.pointer (some ⟨g, 1, none⟩))) w) : o.wp Try.prog a w K Q := by
  unfold Oper.wp execOp
  simp only [ho, hx]
  go_simp
  exact hK
theorem u_fldS2 (x : Operand) (g : Nat) (ho : o.op = .fieldAddr 36 x 2) (hx : a.eval x = .pointer (some ⟨g, 0, none⟩)) (hK : K (a.put o.dst (.pointer (some ⟨g, 2, none⟩))) w) : o.wp Try.prog a w K Q := by
  unfold Oper.wp execOp
  simp only [ho, hx]
  go_simp
  exact hK
theorem u_fldS4 (x : Operand) (g : Nat) (ho : o.op = .fieldAddr 36 x 4) (hx : a.eval x = .pointer (some ⟨g, 0, none⟩)) (hK : K (a.put o.dst (.pointer (some ⟨g, 4, none⟩))) w) : o.wp Try.prog a w K Q := by
  unfold Oper.wp execOp
  simp only [ho, hx]
  go_simp
  exact hK
theorem u_fldS5 (x : Operand) (g : Nat) (ho : o.op = .fieldAddr 36 x 5) (hx : a.eval x = .pointer (some ⟨g, 0, none⟩)) (hK : K (a.put o.dst (.pointer (some ⟨g, 9, none⟩))) w) : o.wp Try.prog a w K Q := by
  unfold Oper.wp execOp
  simp only [ho, hx]
  go_simp
  exact hK
theorem u_fldS6 (x : Operand) (g : Nat) (ho : o.op = .fieldAddr 36 x 6) (hx : a.eval x = .pointer (some ⟨g, 0, none⟩)) (hK : K (a.put o.dst (.pointer (some ⟨g, 14, none⟩))) w) : o.wp Try.prog a w K Q := by
  unfold Oper.wp execOp
  simp only [ho, hx]
  go_simp
  exact hK
theorem u_fldS7 (x : Operand) (g : Nat) (ho : o.op = .fieldAddr 36 x 7) (hx : a.eval x = .pointer (some ⟨g, 0, none⟩)) (hK : K (a.put o.dst (.pointer (some ⟨g, 15, none⟩))) w) : o.wp Try.prog a w K Q := by
  unfold Oper.wp execOp
  simp only [ho, hx]
  go_simp
  exact hK
theorem u_fldE1 (x : Operand) (g j : Nat) (ho : o.op = .fieldAddr 63 x 1) (hx : a.eval x = .pointer (some ⟨g, j, none⟩)) (hK : K (a.put o.dst (.pointer (some ⟨g, j + 1, none⟩))) w) : o.wp Try.prog a w K Q := by
  unfold Oper.wp execOp
  simp only [ho, hx]
  go_simp
  exact hK
theorem u_size (x : Operand) (u : Value) (ts : Array TypeId) (ho : o.op = .call { callee := .value (.func 14), args := #[x], argTypes := ts }) (hx : a.eval x = u)
    (h : Calls Try.prog 14 #[u] w fun e w' => ∃ v, e = .returned v ∧ K (a.put o.dst v) w') : o.wp Try.prog a w K Q := by
  unfold Oper.wp execOp
  simp only [ho, resolve, List.map_toArray, List.map_cons, List.map_nil, hx, show ∀ f, a.eval (.func f) = .func (.func f) #[] #[] from fun _ => rfl]
  go_simp
  exact h.mono fun e w' ⟨u, he, hk⟩ => by subst he; exact hk
theorem u_put16s (x : Operand) (u : Value) (ts : Array TypeId) (ho : o.op = .call { callee := .value (.func 55), args := #[x], argTypes := ts }) (hx : a.eval x = u)
    (h : Calls Try.prog 55 #[u] w fun e w' => ∃ v, e = .returned v ∧ K (a.put o.dst v) w') : o.wp Try.prog a w K Q := by
  unfold Oper.wp execOp
  simp only [ho, resolve, List.map_toArray, List.map_cons, List.map_nil, hx, show ∀ f, a.eval (.func f) = .func (.func f) #[] #[] from fun _ => rfl]
  go_simp
  exact h.mono fun e w' ⟨u, he, hk⟩ => by subst he; exact hk
theorem u_nexts (x y : Operand) (u v : Value) (ts : Array TypeId) (ho : o.op = .call { callee := .value (.func 56), args := #[x, y], argTypes := ts }) (hx : a.eval x = u) (hy : a.eval y = v)
    (h : Calls Try.prog 56 #[u, v] w fun e w' => ∃ v, e = .returned v ∧ K (a.put o.dst v) w') : o.wp Try.prog a w K Q := by
  unfold Oper.wp execOp
  simp only [ho, resolve, List.map_toArray, List.map_cons, List.map_nil, hx, hy, show ∀ f, a.eval (.func f) = .func (.func f) #[] #[] from fun _ => rfl]
  go_simp
  exact h.mono fun e w' ⟨u, he, hk⟩ => by subst he; exact hk
theorem u_nexti (x y : Operand) (u v : Value) (ts : Array TypeId) (ho : o.op = .call { callee := .value (.func 60), args := #[x, y], argTypes := ts }) (hx : a.eval x = u) (hy : a.eval y = v)
    (h : Calls Try.prog 60 #[u, v] w fun e w' => ∃ v, e = .returned v ∧ K (a.put o.dst v) w') : o.wp Try.prog a w K Q := by
  unfold Oper.wp execOp
  simp only [ho, resolve, List.map_toArray, List.map_cons, List.map_nil, hx, hy, show ∀ f, a.eval (.func f) = .func (.func f) #[] #[] from fun _ => rfl]
  go_simp
  exact h.mono fun e w' ⟨u, he, hk⟩ => by subst he; exact hk
theorem u_extsize (x : Operand) (u : Value) (ts : Array TypeId) (ho : o.op = .call { callee := .value (.func 62), args := #[x], argTypes := ts }) (hx : a.eval x = u)
    (h : Calls Try.prog 62 #[u] w fun e w' => ∃ v, e = .returned v ∧ K (a.put o.dst v) w') : o.wp Try.prog a w K Q := by
  unfold Oper.wp execOp
  simp only [ho, resolve, List.map_toArray, List.map_cons, List.map_nil, hx, show ∀ f, a.eval (.func f) = .func (.func f) #[] #[] from fun _ => rfl]
  go_simp
  exact h.mono fun e w' ⟨u, he, hk⟩ => by subst he; exact hk
end
end Go.Proofs.Ytegpaocoepcemaa

namespace Go.Proofs.Ytegpaocoepcemaa
set_option maxRecDepth 100000
open Go.RowKit

theorem run_make_b (m : Nat) (hm : m ≤ 1048576) (w : World) : (Instr.makeSlice 28 (.int .i64 0) (.int .i64 (m : Int))).run Try.prog w = .ok (.slice (some ⟨w.heap.size, 0, none⟩) 0 m) (w.alloc (.cells (madeCells #[.int .u8 0] m) 5)) := by
  obtain ⟨i0, hi0, hz0, hz1, hz2⟩ := info_parts info_u8
  have := run_make (P := Try.prog) w 28 5 i0 (.int .u8 0) Try.underlying28 hi0 hz0 .i64 .i64 0 (m : Int) (Int.le_refl _) (by omega) (by rw [hz2]; omega) (by omega)
  simpa [hz1, Value.cells] using this
theorem own_made_b (w : World) (base m : Nat) (hb : base ≤ w.heap.size) (hm : m ≤ 1048576) : (w.alloc (.cells (madeCells #[.int .u8 0] m) 5)).ownsRow base 5 1 (.slice (some ⟨w.heap.size, 0, none⟩) 0 m) ([] : List UInt8).length (cellsOf []) :=
  World.ownsRow_made w _ m hb (by unfold maxLen; omega) (by rw [size_madeCells]; simp)
theorem run_make_z (z : Int) (m : Nat) (hz : z = (m : Int)) (hm : m ≤ 1048576) (w : World) : (Instr.makeSlice 28 (.int .i64 0) (.int .i64 z)).run Try.prog w = .ok (.slice (some ⟨w.heap.size, 0, none⟩) 0 m) (w.alloc (.cells (madeCells #[.int .u8 0] m) 5)) := hz ▸ run_make_b m hm w

set_option maxRecDepth 100000 in
set_option maxHeartbeats 4000000 in
theorem headIC (x : Fh) (A D : Option Addr) (n c m d : Nat) (os : List UInt8) (sum : Int) (w : World) (hr : RB w w.heap.size A os) (hl : os.length = n) (hok : x.ok n m = true) :
    Calls Try.prog 76 #[.agg #[.int .i64 x.dscp, .int .i64 x.ecn, .int .i64 x.id, .int .i64 x.flags, .int .i64 x.frag, .int .i64 x.ttl, .int .i64 x.proto, .int .i64 x.src.k, .int .i64 x.src.a, .int .i64 x.src.b, .int .i64 x.src.c, .int .i64 x.src.d, .int .i64 x.dst.k, .int .i64 x.dst.a, .int .i64 x.dst.b, .int .i64 x.dst.c, .int .i64 x.dst.d, .slice A n c, .slice D m d], .int .i64 sum] w (HeadOut x sum os n m w) := by
  obtain ⟨⟨⟨hd0, hd1⟩, ⟨he0, he1⟩, _, ⟨hf0, hf1⟩, ⟨hg0, hg1⟩, ⟨hi0, hi1⟩, ⟨hj0, hj1⟩⟩, hs4, ht4, ⟨hn, _⟩, hm⟩ := (x.ok_iff n m).1 hok
  have HS := Lib.hid (And.intro hs4 ht4)
  have HR := Lib.hid hr
  have HL := Lib.hid hl
  have E := Lib.hid (show x.head sum os m = [byteOf (69 + (n : Int) / 4), byteOf (4 * x.dscp + x.ecn)] ++ put16 (20 + (n : Int) + m) ++ put16 x.id ++ put16 (8192 * x.flags + x.frag) ++ [byteOf x.ttl, byteOf x.proto] ++ put16 sum ++ put32 x.src.d ++ put32 x.dst.d ++ os by rw [← hl]; rfl)
  have EL := Lib.hid (show (x.head sum os m).length = 20 + n by rw [Fh.head_length, hl])
  clear hok hs4 ht4 hr hl
  have q := Lib.hid (K.new w (.cells #[.int .i64 x.dscp, .int .i64 x.ecn, .int .i64 x.id, .int .i64 x.flags, .int .i64 x.frag, .int .i64 x.ttl, .int .i64 x.proto, .int .i64 x.src.k, .int .i64 x.src.a, .int .i64 x.src.b, .int .i64 x.src.c, .int .i64 x.src.d, .int .i64 x.dst.k, .int .i64 x.dst.a, .int .i64 x.dst.b, .int .i64 x.dst.c, .int .i64 x.dst.d, .slice A n c, .slice D m d] 52))
  have oa := or_2 x.dscp x.ecn ⟨hd0, hd1⟩ ⟨he0, he1⟩
  have ob := or_13 x.flags x.frag ⟨hf0, hf1⟩ ⟨hg0, hg1⟩
  have oc : bits .or .i64 64 ((20 + (n : Int)) / 4) = 69 + (n : Int) / 4 := by rw [or_64 _ (by omega)]; omega
  obtain ⟨M, hM⟩ : ∃ M : Nat, 20 + (n : Int) + m = M := ⟨20 + n + m, by omega⟩
  have hM2 : M ≤ 1048576 := by omega
  have mk := run_make_z (20 + (n : Int) + m) M hM hM2
  have HM := Lib.hid hM
  clear hM
  go_enter Try.func76, Try.ntmps76
  go_wp2_with (with_reducible refine loadF rfl _ rfl w.heap.size rfl q.out ?_)
  refine Calls.mono (fourHeadC x A D n c m d _ (by omega)) ?_
  rintro e v0 ⟨rfl, b0⟩
  have qm := Lib.hid (K.below b0 q.out)
  have Bm := Lib.hid (bthen (Joins.below_alloc1 w _) b0)
  clear b0
  have z18 := K.cell qm.out 18 _ rfl
  have z0 := cell_on (Joins.below_alloc1 v0 (.cells (madeCells #[.int .u8 0] M) 5)) (K.cell qm.out 0 _ rfl)
  have z1 := cell_on (Joins.below_alloc1 v0 (.cells (madeCells #[.int .u8 0] M) 5)) (K.cell qm.out 1 _ rfl)
  have OM := Lib.hid (own_made_b v0 (w.heap.size + 1) M (K.lt qm.out) hM2)
  have qn := Lib.hid (K.old qm.out (.cells (madeCells #[.int .u8 0] M) 5))
  have Bn := Lib.hid (bthen Bm.out (Joins.below_alloc1 v0 (.cells (madeCells #[.int .u8 0] M) 5)))
  have RM : Hid (RB ((v0.alloc (.cells (madeCells #[.int .u8 0] M) 5)).alloc (.cells #[.int .u8 (69 + (n : Int) / 4), .int .u8 (4 * x.dscp + x.ecn)] 5)) (v0.heap.size + 1 + 1) (some ⟨v0.heap.size + 1, 0, none⟩) [byteOf (69 + (n : Int) / 4), byteOf (4 * x.dscp + x.ecn)]) := by
    have := rb_twos (v0.alloc (.cells (madeCells #[.int .u8 0] M) 5)) (69 + (n : Int) / 4) (4 * x.dscp + x.ecn) (by omega) (by omega)
    simp only [World.size_alloc] at this
    exact Lib.hid this
  go_wp2_with (at_builtin; (refine wpList_append_b rfl (.tmp 17) (.tmp 29) rfl (w.heap.size + 1) (.slice (some ⟨v0.heap.size, 0, none⟩) 0 M) [] rfl (World.ownsRow.alloc OM.out (.cells #[.int .u8 (69 + (n : Int) / 4), .int .u8 (4 * x.dscp + x.ecn)] 5)) _ (some ⟨v0.heap.size + 1, 0, none⟩) 2 2 ([byteOf (69 + (n : Int) / 4), byteOf (4 * x.dscp + x.ecn)]) rfl rfl RM.out (by simp) (K.lt (K.old qn.out (.cells #[.int .u8 (69 + (n : Int) / 4), .int .u8 (4 * x.dscp + x.ecn)] 5))) ?_); intro v0' w0 o0 g0 _; have n0 : w0.ownsRow (w.heap.size + 1) 5 1 v0' 2 (cellsOf [byteOf (69 + (n : Int) / 4), byteOf (4 * x.dscp + x.ecn)]) := o0; clear o0; obtain ⟨A0, c0, rfl⟩ := own_form n0; have O0 := Lib.hid n0; clear n0; have q0 := Lib.hid (K.kept g0 (K.old qn.out (.cells #[.int .u8 (69 + (n : Int) / 4), .int .u8 (4 * x.dscp + x.ecn)] 5)) (fun k hk => by have := ((World.ownsRow.alloc OM.out (.cells #[.int .u8 (69 + (n : Int) / 4), .int .u8 (4 * x.dscp + x.ecn)] 5)).lt k hk).1; omega)); have B0 := Lib.hid (bgrown (bthen Bn.out (Joins.below_alloc1 _ (.cells #[.int .u8 (69 + (n : Int) / 4), .int .u8 (4 * x.dscp + x.ecn)] 5))) g0 (fun k hk => by have := ((World.ownsRow.alloc OM.out (.cells #[.int .u8 (69 + (n : Int) / 4), .int .u8 (4 * x.dscp + x.ecn)] 5)).lt k hk).1; omega)); clear g0)
  refine Calls.mono (put16I ((20 + (n : Int) + m)) _) ?_
  rintro e u1 ⟨X1, y1, rfl, p1, b1⟩
  have P1 := Lib.hid (own_below O0.out b1)
  have Q1 := Lib.hid (K.below b1 q0.out)
  have D1 := Lib.hid (bthen B0.out b1)
  have R1 := Lib.hid (RB.of_own p1)
  clear p1 b1
  go_wp2_with (first | (at_builtin; (refine wpList_append_b rfl (.tmp 31) (.tmp 33) rfl (w.heap.size + 1) (.slice A0 2 c0) ([byteOf (69 + (n : Int) / 4), byteOf (4 * x.dscp + x.ecn)]) rfl P1.out _ X1 2 y1 (put16 (20 + (n : Int) + m)) rfl rfl R1.out (by simp [put16]) (K.lt Q1.out) ?_); intro v1 w1 o1 g1 _; have n1 : w1.ownsRow (w.heap.size + 1) 5 1 v1 4 (cellsOf ([byteOf (69 + (n : Int) / 4), byteOf (4 * x.dscp + x.ecn)] ++ put16 (20 + (n : Int) + m))) := o1; clear o1; obtain ⟨A1, c1, rfl⟩ := own_form n1; have O1 := Lib.hid n1; clear n1; have q1 := Lib.hid (K.kept g1 Q1.out (fun k hk => by have := (World.ownsRow.lt P1.out k hk).1; omega)); have B1 := Lib.hid (bgrown D1.out g1 (fun k hk => by have := (World.ownsRow.lt P1.out k hk).1; omega)); clear g1; have z2 := K.cell q1.out 2 _ rfl))
  refine Calls.mono (put16I (x.id) _) ?_
  rintro e u2 ⟨X2, y2, rfl, p2, b2⟩
  have P2 := Lib.hid (own_below O1.out b2)
  have Q2 := Lib.hid (K.below b2 q1.out)
  have D2 := Lib.hid (bthen B1.out b2)
  have R2 := Lib.hid (RB.of_own p2)
  clear p2 b2
  go_wp2_with (first | (at_builtin; (refine wpList_append_b rfl (.tmp 35) (.tmp 38) rfl (w.heap.size + 1) (.slice A1 4 c1) ([byteOf (69 + (n : Int) / 4), byteOf (4 * x.dscp + x.ecn)] ++ put16 (20 + (n : Int) + m)) rfl P2.out _ X2 2 y2 (put16 x.id) rfl rfl R2.out (by simp [put16]) (K.lt Q2.out) ?_); intro v2 w2 o2 g2 _; have n2 : w2.ownsRow (w.heap.size + 1) 5 1 v2 6 (cellsOf ([byteOf (69 + (n : Int) / 4), byteOf (4 * x.dscp + x.ecn)] ++ put16 (20 + (n : Int) + m) ++ put16 x.id)) := o2; clear o2; obtain ⟨A2, c2, rfl⟩ := own_form n2; have O2 := Lib.hid n2; clear n2; have q2 := Lib.hid (K.kept g2 Q2.out (fun k hk => by have := (World.ownsRow.lt P2.out k hk).1; omega)); have B2 := Lib.hid (bgrown D2.out g2 (fun k hk => by have := (World.ownsRow.lt P2.out k hk).1; omega)); clear g2; have z3 := K.cell q2.out 3 _ rfl; have z4 := K.cell q2.out 4 _ rfl))
  refine Calls.mono (put16I ((8192 * x.flags + x.frag)) _) ?_
  rintro e u3 ⟨X3, y3, rfl, p3, b3⟩
  have P3 := Lib.hid (own_below O2.out b3)
  have Q3 := Lib.hid (K.below b3 q2.out)
  have D3 := Lib.hid (bthen B2.out b3)
  have R3 := Lib.hid (RB.of_own p3)
  clear p3 b3
  go_wp2_with (first | (at_builtin; (refine wpList_append_b rfl (.tmp 40) (.tmp 47) rfl (w.heap.size + 1) (.slice A2 6 c2) ([byteOf (69 + (n : Int) / 4), byteOf (4 * x.dscp + x.ecn)] ++ put16 (20 + (n : Int) + m) ++ put16 x.id) rfl P3.out _ X3 2 y3 (put16 (8192 * x.flags + x.frag)) rfl rfl R3.out (by simp [put16]) (K.lt Q3.out) ?_); intro v3 w3 o3 g3 _; have n3 : w3.ownsRow (w.heap.size + 1) 5 1 v3 8 (cellsOf ([byteOf (69 + (n : Int) / 4), byteOf (4 * x.dscp + x.ecn)] ++ put16 (20 + (n : Int) + m) ++ put16 x.id ++ put16 (8192 * x.flags + x.frag))) := o3; clear o3; obtain ⟨A3, c3, rfl⟩ := own_form n3; have O3 := Lib.hid n3; clear n3; have q3 := Lib.hid (K.kept g3 Q3.out (fun k hk => by have := (World.ownsRow.lt P3.out k hk).1; omega)); have B3 := Lib.hid (bgrown D3.out g3 (fun k hk => by have := (World.ownsRow.lt P3.out k hk).1; omega)); clear g3; have z5 := K.cell q3.out 5 _ rfl; have z6 := K.cell q3.out 6 _ rfl) | (at_builtin; (refine wpList_append_b rfl (.tmp 49) (.tmp 56) rfl (w.heap.size + 1) (.slice A3 8 c3) ([byteOf (69 + (n : Int) / 4), byteOf (4 * x.dscp + x.ecn)] ++ put16 (20 + (n : Int) + m) ++ put16 x.id ++ put16 (8192 * x.flags + x.frag)) rfl (World.ownsRow.alloc O3.out (.cells #[.int .u8 x.ttl, .int .u8 x.proto] 5)) _ (some ⟨w3.heap.size, 0, none⟩) 2 2 ([byteOf x.ttl, byteOf x.proto]) rfl rfl (rb_twos w3 x.ttl x.proto ⟨hi0, by omega⟩ ⟨hj0, by omega⟩) (by simp [put16]) (K.lt (K.old q3.out (.cells #[.int .u8 x.ttl, .int .u8 x.proto] 5))) ?_); intro v4 w4 o4 g4 _; have n4 : w4.ownsRow (w.heap.size + 1) 5 1 v4 10 (cellsOf ([byteOf (69 + (n : Int) / 4), byteOf (4 * x.dscp + x.ecn)] ++ put16 (20 + (n : Int) + m) ++ put16 x.id ++ put16 (8192 * x.flags + x.frag) ++ [byteOf x.ttl, byteOf x.proto])) := o4; clear o4; obtain ⟨A4, c4, rfl⟩ := own_form n4; have O4 := Lib.hid n4; clear n4; have q4 := Lib.hid (K.kept g4 (K.old q3.out (.cells #[.int .u8 x.ttl, .int .u8 x.proto] 5)) (fun k hk => by have := (World.ownsRow.lt (World.ownsRow.alloc O3.out (.cells #[.int .u8 x.ttl, .int .u8 x.proto] 5)) k hk).1; omega)); have B4 := Lib.hid (bgrown (bthen B3.out (Joins.below_alloc1 w3 (.cells #[.int .u8 x.ttl, .int .u8 x.proto] 5))) g4 (fun k hk => by have := (World.ownsRow.lt (World.ownsRow.alloc O3.out (.cells #[.int .u8 x.ttl, .int .u8 x.proto] 5)) k hk).1; omega)); clear g4))
  refine Calls.mono (put16I (sum) _) ?_
  rintro e u5 ⟨X5, y5, rfl, p5, b5⟩
  have P5 := Lib.hid (own_below O4.out b5)
  have Q5 := Lib.hid (K.below b5 q4.out)
  have D5 := Lib.hid (bthen B4.out b5)
  have R5 := Lib.hid (RB.of_own p5)
  clear p5 b5
  go_wp2_with (first | (at_builtin; (refine wpList_append_b rfl (.tmp 58) (.tmp 60) rfl (w.heap.size + 1) (.slice A4 10 c4) ([byteOf (69 + (n : Int) / 4), byteOf (4 * x.dscp + x.ecn)] ++ put16 (20 + (n : Int) + m) ++ put16 x.id ++ put16 (8192 * x.flags + x.frag) ++ [byteOf x.ttl, byteOf x.proto]) rfl P5.out _ X5 2 y5 (put16 sum) rfl rfl R5.out (by simp [put16]) (K.lt Q5.out) ?_); intro v5 w5 o5 g5 _; have n5 : w5.ownsRow (w.heap.size + 1) 5 1 v5 12 (cellsOf ([byteOf (69 + (n : Int) / 4), byteOf (4 * x.dscp + x.ecn)] ++ put16 (20 + (n : Int) + m) ++ put16 x.id ++ put16 (8192 * x.flags + x.frag) ++ [byteOf x.ttl, byteOf x.proto] ++ put16 sum)) := o5; clear o5; obtain ⟨A5, c5, rfl⟩ := own_form n5; have O5 := Lib.hid n5; clear n5; have q5 := Lib.hid (K.kept g5 Q5.out (fun k hk => by have := (World.ownsRow.lt P5.out k hk).1; omega)); have B5 := Lib.hid (bgrown D5.out g5 (fun k hk => by have := (World.ownsRow.lt P5.out k hk).1; omega)); clear g5; have z7 := K.cell q5.out 7 _ rfl; have z8 := K.cell q5.out 8 _ rfl; have z9 := K.cell q5.out 9 _ rfl; have z10 := K.cell q5.out 10 _ rfl; have z11 := K.cell q5.out 11 _ rfl))
  refine Calls.mono (addr4I x.src HS.out.1 _) ?_
  rintro e u6 ⟨X6, y6, rfl, p6, b6⟩
  have P6 := Lib.hid (own_below O5.out b6)
  have Q6 := Lib.hid (K.below b6 q5.out)
  have D6 := Lib.hid (bthen B5.out b6)
  have R6 := Lib.hid (RB.of_own p6)
  clear p6 b6
  go_wp2_with (first | (at_builtin; (refine wpList_append_b rfl (.tmp 62) (.tmp 65) rfl (w.heap.size + 1) (.slice A5 12 c5) ([byteOf (69 + (n : Int) / 4), byteOf (4 * x.dscp + x.ecn)] ++ put16 (20 + (n : Int) + m) ++ put16 x.id ++ put16 (8192 * x.flags + x.frag) ++ [byteOf x.ttl, byteOf x.proto] ++ put16 sum) rfl P6.out _ X6 4 y6 (put32 x.src.d) rfl rfl R6.out (by simp [put16, put32]) (K.lt Q6.out) ?_); intro v6 w6 o6 g6 _; have n6 : w6.ownsRow (w.heap.size + 1) 5 1 v6 16 (cellsOf ([byteOf (69 + (n : Int) / 4), byteOf (4 * x.dscp + x.ecn)] ++ put16 (20 + (n : Int) + m) ++ put16 x.id ++ put16 (8192 * x.flags + x.frag) ++ [byteOf x.ttl, byteOf x.proto] ++ put16 sum ++ put32 x.src.d)) := o6; clear o6; obtain ⟨A6, c6, rfl⟩ := own_form n6; have O6 := Lib.hid n6; clear n6; have q6 := Lib.hid (K.kept g6 Q6.out (fun k hk => by have := (World.ownsRow.lt P6.out k hk).1; omega)); have B6 := Lib.hid (bgrown D6.out g6 (fun k hk => by have := (World.ownsRow.lt P6.out k hk).1; omega)); clear g6; have z12 := K.cell q6.out 12 _ rfl; have z13 := K.cell q6.out 13 _ rfl; have z14 := K.cell q6.out 14 _ rfl; have z15 := K.cell q6.out 15 _ rfl; have z16 := K.cell q6.out 16 _ rfl))
  refine Calls.mono (addr4I x.dst HS.out.2 _) ?_
  rintro e u7 ⟨X7, y7, rfl, p7, b7⟩
  have P7 := Lib.hid (own_below O6.out b7)
  have Q7 := Lib.hid (K.below b7 q6.out)
  have D7 := Lib.hid (bthen B6.out b7)
  have R7 := Lib.hid (RB.of_own p7)
  clear p7 b7
  go_wp2_with (first | (at_builtin; (refine wpList_append_b rfl (.tmp 67) (.tmp 70) rfl (w.heap.size + 1) (.slice A6 16 c6) ([byteOf (69 + (n : Int) / 4), byteOf (4 * x.dscp + x.ecn)] ++ put16 (20 + (n : Int) + m) ++ put16 x.id ++ put16 (8192 * x.flags + x.frag) ++ [byteOf x.ttl, byteOf x.proto] ++ put16 sum ++ put32 x.src.d) rfl P7.out _ X7 4 y7 (put32 x.dst.d) rfl rfl R7.out (by simp [put16, put32]) (K.lt Q7.out) ?_); intro v7 w7 o7 g7 _; have n7 : w7.ownsRow (w.heap.size + 1) 5 1 v7 20 (cellsOf ([byteOf (69 + (n : Int) / 4), byteOf (4 * x.dscp + x.ecn)] ++ put16 (20 + (n : Int) + m) ++ put16 x.id ++ put16 (8192 * x.flags + x.frag) ++ [byteOf x.ttl, byteOf x.proto] ++ put16 sum ++ put32 x.src.d ++ put32 x.dst.d)) := o7; clear o7; obtain ⟨A7, c7, rfl⟩ := own_form n7; have O7 := Lib.hid n7; clear n7; have q7 := Lib.hid (K.kept g7 Q7.out (fun k hk => by have := (World.ownsRow.lt P7.out k hk).1; omega)); have B7 := Lib.hid (bgrown D7.out g7 (fun k hk => by have := (World.ownsRow.lt P7.out k hk).1; omega)); clear g7; have z17 := K.cell q7.out 17 _ rfl) | (at_builtin; (refine wpList_append_b rfl (.tmp 72) (.tmp 74) rfl (w.heap.size + 1) (.slice A7 20 c7) ([byteOf (69 + (n : Int) / 4), byteOf (4 * x.dscp + x.ecn)] ++ put16 (20 + (n : Int) + m) ++ put16 x.id ++ put16 (8192 * x.flags + x.frag) ++ [byteOf x.ttl, byteOf x.proto] ++ put16 sum ++ put32 x.src.d ++ put32 x.dst.d) rfl O7.out w.heap.size A n c os rfl HL.out (HR.out.below B7.out) (by rw [HL.out]; simp [put16, put32]; omega) (K.lt q7.out) ?_); intro v8 w8 o8 g8 _; rw [← E.out, EL.out] at o8; obtain ⟨A8, c8, rfl⟩ := own_form o8; have O8 := Lib.hid o8; clear o8; have q8 := Lib.hid (K.kept g8 q7.out (fun k hk => by have := (World.ownsRow.lt O7.out k hk).1; omega)); have B8 := Lib.hid (bgrown B7.out g8 (fun k hk => by have := (World.ownsRow.lt O7.out k hk).1; omega)); clear g8))
  go_ret
  exact ⟨A8, c8, rfl, own_base O8.out (by omega), B8.out⟩
end Go.Proofs.Ytegpaocoepcemaa
