/-
  A region that draws its order, the first k operations of which may come up in any order, some of them under a guard that is known ahead ('&&', '||'), and the others only behind all of them and in their own order. Plain: any program. RuleOk in the model. RuleCovers in the model. RulesOk in the model. Shadowed in the model.
-/
import Derived.Test.YtdndanbalmoklaaRegThen
import Derived.Test.YtdndanbalmoklaaRule
import Derived.Test.YtdndanbalmoklaaPfxSpec
import Derived.Test.YtdndanbalmoklaaRuleOkI
import Derived.Test.YtdndanbalmoklaaRuCovI
import Derived.Test.YtdndanbalmoklaaPfxIn
import Derived.Test.YtdndanbalmoklaaRuRow
import Derived.Test.YtdndanbalmoklaaShadLib
namespace Go.Proofs.Ytdndanbalmoklaa
set_option maxRecDepth 100000
open Go.RowKit

section
variable {P : Program} {ops : Array Oper} {Q : Exit → Act → World → Prop}

/-- Does an operation run, where the slots of those that guard are known: 'some (some b)': it holds b; 'some none': it was left out itself. -/
def runsB (V : Nat → Option (Option Bool)) (o : Oper) : Bool :=
  match o.guard with
  | none => true
  | some (g, want) => match V g with
    | some (some b) => b == want
    | _ => false
/-- A guard is an operation on which the guarded one waits, and its slot is known. -/
def gokB (ops : Array Oper) (V : Nat → Option (Option Bool)) (j : Nat) (o : Oper) : Bool :=
  match o.guard with
  | none => true
  | some (g, _) => (depsOf ops j).contains g && (V g).isSome && ((ops[g]?).bind (·.dst)).isSome
def valOf : Option Bool → Value
  | some b => .bool b
  | none => undef
theorem wanted_runs {V : Nat → Option (Option Bool)} {j n : Nat} {o : Oper} {a : Act} (h : gokB ops V j o = true) (hn : a.tmps.size = n)
    (hs : ∀ g og d, g ∈ depsOf ops j → ops[g]? = some og → og.dst = some d → d < n ∧ ∀ x, V g = some x → a.tmps.getD d undef = valOf x) : Region.wanted o (yielded ops a.tmps) = runsB V o := by
  unfold Region.wanted runsB
  cases hg : o.guard with
  | none => rfl
  | some p =>
    obtain ⟨g, want⟩ := p
    simp only [gokB, hg, Bool.and_eq_true] at h
    obtain ⟨⟨h1, h2⟩, h3⟩ := h
    obtain ⟨d, hd⟩ := Option.isSome_iff_exists.1 h3
    obtain ⟨og, ho, hd⟩ := Option.bind_eq_some_iff.1 hd
    obtain ⟨x, hx⟩ := Option.isSome_iff_exists.1 h2
    obtain ⟨hlt, hv⟩ := hs g og d (by simpa using h1) ho hd
    have hv := hv x hx
    have e : a.tmps[d]? = some (valOf x) := by
      rw [← hv]
      simp [show d < a.tmps.size by rw [hn]; exact hlt]
    simp only [hx]
    unfold yielded
    simp only [ho, Option.bind_some, hd, e]
    cases x with
    | none => rfl
    | some b => simp [valOf]

/-- What is asked of the region's form. -/
def guardB (ops : Array Oper) (V : Nat → Option (Option Bool)) (n k : Nat) : Bool :=
  decide (k < ops.size) && ((List.range k).all fun j => (markOf ops (k + 1) [k]).contains j) && ((List.range ops.size).all fun j => match ops[j]? with
    | none => true
    | some o => o.after.all (fun e => !Region.binds .any e || decide (e.on < j)) && (if j < k then gokB ops V j o && (match o.dst with
        | none => true
        | some d => decide (d < n) && (List.range k).all fun i => decide (i = j) || decide ((ops[i]?).bind (·.dst) ≠ some d))
      else decide (j = k) || (depsOf ops j).contains (j - 1)))
theorem guardB_at {V : Nat → Option (Option Bool)} {n k : Nat} (h : guardB ops V n k = true) {j : Nat} {o : Oper} (ho : ops[j]? = some o) :
    (∀ e ∈ o.after, Region.binds .any e = true → e.on < j) ∧ (j < k → gokB ops V j o = true ∧ ∀ d, o.dst = some d → d < n ∧ ∀ i oi, i < k → ops[i]? = some oi → oi.dst = some d → i = j) ∧ (k < j → j - 1 ∈ depsOf ops j) := by
  have hj : j < ops.size := (Array.getElem?_eq_some_iff.1 ho).1
  simp only [guardB, Bool.and_eq_true] at h
  have h1 := List.all_eq_true.1 h.2 j (List.mem_range.2 hj)
  rw [ho] at h1
  simp only [Bool.and_eq_true] at h1
  refine ⟨fun e he hb => ?_, fun hjk => ?_, fun hkj => ?_⟩
  · have := Array.all_eq_true_iff_forall_mem.1 h1.1 e he
    simpa [hb] using this
  · have h2 := h1.2
    rw [if_pos hjk] at h2
    simp only [Bool.and_eq_true] at h2
    refine ⟨h2.1, fun d hd => ?_⟩
    have h3 := h2.2
    rw [hd] at h3
    simp only [Bool.and_eq_true, decide_eq_true_eq] at h3
    refine ⟨h3.1, fun i oi hik hi hdi => ?_⟩
    have h4 := List.all_eq_true.1 h3.2 i (List.mem_range.2 hik)
    rw [hi] at h4
    simp only [Option.bind_some, hdi, ne_eq, not_true, decide_false, Bool.or_false, decide_eq_true_eq] at h4
    exact h4
  · have h2 := h1.2
    rw [if_neg (by omega)] at h2
    simp only [Bool.or_eq_true, decide_eq_true_eq, List.contains_eq_mem] at h2
    rcases h2 with h2 | h2
    · omega
    · exact h2
theorem guardB_all {V : Nat → Option (Option Bool)} {n k : Nat} (h : guardB ops V n k = true) (S : Nat → Prop) (hS : ∀ j i, S j → i ∈ depsOf ops j → S i) (hk : S k) : k < ops.size ∧ ∀ j, j < k → S j := by
  simp only [guardB, Bool.and_eq_true, decide_eq_true_eq] at h
  refine ⟨h.1.1, fun j hj => ?_⟩
  have h1 := List.all_eq_true.1 h.1.2 j (List.mem_range.2 hj)
  exact markOf_spec S hS (k + 1) [k] (fun l hl => by simp only [List.mem_singleton] at hl; subst hl; exact hk) j (by simpa using h1)

/-- The last operations, in their order. -/
theorem wpAny_gtail {V : Nat → Option (Option Bool)} {n k : Nat} (hf : guardB ops V n k = true) : ∀ (fuel q : Nat) (listed : Array Bool) (a : Act) (w : World), k ≤ q → q ≤ ops.size → listed.size = ops.size → (∀ i, i < ops.size → (listed.getD i false = true ↔ i < q)) → ops.size ≤ q + fuel →
    wpList P ops Q (ops.toList.drop q) a w → wpAny P .any ops Q fuel listed a w := by
  have only : ∀ (q : Nat) (listed : Array Bool), k ≤ q → listed.size = ops.size → (∀ i, i < ops.size → (listed.getD i false = true ↔ i < q)) → ∀ i, i ∈ Region.ready .any ops listed → i = q ∧ q < ops.size := by
    intro q listed hkq hs hl i hi
    obtain ⟨h0, o, ho, hall⟩ := mem_ready.1 hi
    have hi2 : i < ops.size := (Array.getElem?_eq_some_iff.1 ho).1
    have hi3 : i < listed.size := by omega
    have hif : listed.getD i false = false := by simpa [hi3] using h0
    have h1 : ¬ i < q := fun h => by rw [(hl i hi2).2 h] at hif; cases hif
    rcases Nat.lt_or_ge q i with h | h
    · obtain ⟨o', ho', e, he, heq, hb⟩ := depsOf_spec ((guardB_at hf ho).2.2 (by omega))
      obtain rfl : o = o' := Option.some.inj (ho.symm.trans ho')
      have := hall e he hb
      rw [heq] at this
      have := (hl (i - 1) (by omega)).1 this
      omega
    · exact ⟨by omega, by omega⟩
  intro fuel
  induction fuel with
  | zero =>
    intro q listed a w hkq hq hs hl hle hw
    refine ⟨?_, ?_⟩
    · cases hr : Region.ready .any ops listed with
      | nil => rfl
      | cons i l =>
        have := only q listed hkq hs hl i (by rw [hr]; simp)
        omega
    · rw [List.drop_eq_nil_of_le (by simp; omega)] at hw
      exact hw
  | succ fuel ih =>
    intro q listed a w hkq hq hs hl hle hw
    refine ⟨fun hr => ?_, fun i hi => ?_⟩
    · rcases Nat.lt_or_ge q ops.size with h | h
      · exfalso
        obtain ⟨o, ho⟩ : ∃ o, ops[q]? = some o := ⟨_, Array.getElem?_eq_getElem h⟩
        have hm : q ∈ Region.ready .any ops listed := by
          refine mem_ready.2 ⟨?_, o, ho, fun e he hb => ?_⟩
          · have h2 : q < listed.size := by omega
            have h3 : listed.getD q false = false := by
              cases hg : listed.getD q false
              · rfl
              · have := (hl q h).1 hg
                omega
            simpa [h2] using h3
          · have := (guardB_at hf ho).1 e he hb
            exact (hl e.on (by omega)).2 this
        rw [hr] at hm
        cases hm
      · rw [List.drop_eq_nil_of_le (by simp; omega)] at hw
        exact hw
    · obtain ⟨rfl, hlt⟩ := only q listed hkq hs hl i hi
      have ho : ops[i]? = some ops[i] := Array.getElem?_eq_getElem hlt
      have e : ops.toList.drop i = ops[i] :: ops.toList.drop (i + 1) := by
        rw [List.drop_eq_getElem_cons (by simpa using hlt)]
        simp
      rw [e] at hw
      have next : ∀ a' w', wpList P ops Q (ops.toList.drop (i + 1)) a' w' → wpAny P .any ops Q fuel (listed.setIfInBounds i true) a' w' := by
        intro a' w' h
        refine ih (i + 1) _ a' w' (by omega) (by omega) (by simpa using hs) (fun j hj => ?_) (by omega) h
        by_cases hji : j = i
        · subst hji
          simp [hs, hj]
        · rw [getD_set_ne (listed := listed) false (Ne.symm hji), hl j hj]
          omega
      unfold wpOp
      simp only [ho]
      unfold wpList at hw
      split
      · rename_i hwn
        rw [if_pos hwn] at hw
        rcases hw with hw | hw
        · exact .inl (Oper.wp_mono next hw)
        · exact .inr hw
      · rename_i hwn
        rw [if_neg hwn] at hw
        exact next _ _ hw

/-- What stands while the first operations run. -/
structure KeptGu (ops : Array Oper) (Γ : Nat → World → Value → Prop) (I : World → Prop) (n k : Nat) (a0 : Act) (listed : Array Bool) (a : Act) (w : World) : Prop where
  size : listed.size = ops.size
  len : a.tmps.size = n
  defers : a.defers = a0.defers
  keep : ∀ t, (∀ (j : Nat) o, j < k → ops[j]? = some o → o.dst ≠ some t) → a.tmps.getD t undef = a0.tmps.getD t undef
  none : ∀ i, k ≤ i → listed.getD i false = false
  closed : ∀ j, listed.getD j false = true → ∀ i ∈ depsOf ops j, listed.getD i false = true
  inv : I w
  slots : ∀ (j : Nat) o d, j < k → ops[j]? = some o → o.dst = some d → listed.getD j false = true → Γ j w (a.tmps.getD d undef)

theorem wpAny_guard {V : Nat → Option (Option Bool)} {Γ : Nat → World → Value → Prop} {I : World → Prop} {n k : Nat} {a0 : Act} (hf : guardB ops V n k = true)
    (hV : ∀ g w u x, Γ g w u → V g = some x → u = valOf x) (hskip : ∀ j o, j < k → ops[j]? = some o → runsB V o = false → ∀ w, Γ j w undef)
    (hop : ∀ (j : Nat) o, j < k → ops[j]? = some o → runsB V o = true → ∀ a w K, (∀ t, (∀ (j : Nat) o, j < k → ops[j]? = some o → o.dst ≠ some t) → a.tmps.getD t undef = a0.tmps.getD t undef) → (∀ p ∈ needOf ops j, Γ p.1 w (a.tmps.getD p.2 undef)) → I w →
      (∀ v w', Γ j w' v → (∀ i u, Γ i w u → Γ i w' u) → I w' → K (a.put o.dst v) w') → o.wp P a w K Q)
    (hend : ∀ a w, a.tmps.size = n → a.defers = a0.defers → (∀ t, (∀ (j : Nat) o, j < k → ops[j]? = some o → o.dst ≠ some t) → a.tmps.getD t undef = a0.tmps.getD t undef) →
      (∀ (j : Nat) o d, j < k → ops[j]? = some o → o.dst = some d → Γ j w (a.tmps.getD d undef)) → I w → wpList P ops Q (ops.toList.drop k) a w) :
    ∀ (fuel : Nat) (listed : Array Bool) (a : Act) (w : World), KeptGu ops Γ I n k a0 listed a w → ops.size ≤ up listed + fuel → wpAny P .any ops Q fuel listed a w := by
  have hks : k < ops.size := by
    simp only [guardB, Bool.and_eq_true, decide_eq_true_eq] at hf
    exact hf.1.1
  have notall : ∀ (listed : Array Bool) (a : Act) (w : World), KeptGu ops Γ I n k a0 listed a w → up listed = ops.size → False := by
    intro listed a w hk hu
    have := up_all (listed := listed) (by rw [hu, hk.size]) (i := k) (by rw [hk.size]; exact hks)
    rw [hk.none k (Nat.le_refl _)] at this
    cases this
  have nostop : ∀ (listed : Array Bool) (a : Act) (w : World), KeptGu ops Γ I n k a0 listed a w → Region.ready .any ops listed = [] → False := by
    intro listed a w hk hr
    have hall : ∀ j, j < ops.size → listed.getD j false = true := by
      intro j
      induction j using Nat.strongRecOn with
      | ind j ih =>
        intro hj
        obtain ⟨o, ho⟩ : ∃ o, ops[j]? = some o := ⟨_, Array.getElem?_eq_getElem hj⟩
        cases hg : listed.getD j false
        · have hm : j ∈ Region.ready .any ops listed := by
            refine mem_ready.2 ⟨?_, o, ho, fun e he hb => ?_⟩
            · have hj2 : j < listed.size := by rw [hk.size]; exact hj
              simpa [hj2] using hg
            · have := (guardB_at hf ho).1 e he hb
              exact ih e.on this (by omega)
          rw [hr] at hm
          cases hm
        · rfl
    have := hall k hks
    rw [hk.none k (Nat.le_refl _)] at this
    cases this
  intro fuel
  induction fuel with
  | zero =>
    intro listed a w hk hle
    exact (notall listed a w hk (by have := up_le listed; have := hk.size; omega)).elim
  | succ fuel ih =>
    intro listed a w hk hle
    refine ⟨fun hr => (nostop listed a w hk hr).elim, fun i hi => ?_⟩
    obtain ⟨h0, o, ho, hall⟩ := mem_ready.1 hi
    obtain ⟨hu, hil⟩ := up_set h0
    obtain ⟨hlt, hd, htail⟩ := guardB_at hf ho
    rcases Nat.lt_trichotomy i k with hik | hik | hik
    · obtain ⟨hg, hd⟩ := hd hik
      have go : ∀ v w', Γ i w' v → (∀ l u, Γ l w u → Γ l w' u) → I w' → wpAny P .any ops Q fuel (listed.setIfInBounds i true) (a.put o.dst v) w' := by
        intro v w' hv hR hI
        refine ih _ _ _ ⟨by simpa using hk.size, by rw [put_size]; exact hk.len, by rw [put_defers']; exact hk.defers, fun t ht => ?_, fun j hj => ?_, fun j hl l hl2 => ?_, hI, fun j oj d hjk hj hdj hl => ?_⟩ (by omega)
        · rw [put_other a v (ht i o hik ho)]
          exact hk.keep t ht
        · rw [getD_set_ne (listed := listed) false (by omega)]
          exact hk.none j hj
        · by_cases hji : j = i
          · subst hji
            obtain ⟨o', ho', e, he, heq, hb⟩ := depsOf_spec hl2
            obtain rfl : o = o' := Option.some.inj (ho.symm.trans ho')
            rw [← heq, getD_set_ne (listed := listed) false (by have := hlt e he hb; omega)]
            exact hall e he hb
          · rw [getD_set_ne (listed := listed) false (Ne.symm hji)] at hl
            have := hk.closed j hl l hl2
            by_cases hli : l = i
            · subst hli
              simp [hil]
            · rw [getD_set_ne (listed := listed) false (Ne.symm hli)]
              exact this
        · by_cases hji : j = i
          · subst hji
            obtain rfl : o = oj := Option.some.inj (ho.symm.trans hj)
            rw [hdj, put_own a v (hd d hdj).1 hk.len]
            exact hv
          · have hne : o.dst ≠ some d := fun e => hji ((hd d e).2 j oj hjk hj hdj)
            rw [put_other a v hne]
            refine hR j _ (hk.slots j oj d hjk hj hdj ?_)
            rw [← getD_set_ne (listed := listed) false (Ne.symm hji)]
            exact hl
      have hw : Region.wanted o (yielded ops a.tmps) = runsB V o := wanted_runs hg hk.len (fun g og d hgd hog hdd => by
        obtain ⟨o', ho', e, he, heq, hb⟩ := depsOf_spec hgd
        obtain rfl : o = o' := Option.some.inj (ho.symm.trans ho')
        have h1 := hlt e he hb
        rw [heq] at h1
        have h2 := hall e he hb
        rw [heq] at h2
        exact ⟨(((guardB_at hf hog).2.1 (by omega)).2 d hdd).1, fun x hx => hV g w _ x (hk.slots g og d (by omega) hog hdd h2) hx⟩)
      unfold wpOp
      simp only [ho]
      cases hr : runsB V o with
      | true =>
        rw [if_pos (hw.trans hr)]
        left
        refine hop i o hik ho hr a w _ hk.keep (fun p hp => ?_) hk.inv go
        obtain ⟨⟨e, he, hep, hb⟩, oj, hoj, hdj⟩ := needOf_spec ho hp
        exact hk.slots p.1 oj p.2 (by have := hlt e he hb; omega) hoj hdj (by rw [← hep]; exact hall e he hb)
      | false =>
        rw [if_neg (by rw [hw, hr]; simp)]
        exact go undef w (hskip i o hik ho hr w) (fun _ _ h => h) hk.inv
    · subst hik
      have hdone : ∀ j, j < i → listed.getD j false = true := by
        have := (guardB_all hf (fun j => listed.getD j false = true ∨ j = i) (fun j l hj hl => ?_) (.inr rfl)).2
        · intro j hj
          rcases this j hj with h | h
          · exact h
          · omega
        · rcases hj with hj | rfl
          · exact .inl (hk.closed j hj l hl)
          · obtain ⟨o', ho', e, he, heq, hb⟩ := depsOf_spec hl
            obtain rfl : o = o' := Option.some.inj (ho.symm.trans ho')
            exact .inl (heq ▸ hall e he hb)
      have hw := hend a w hk.len hk.defers hk.keep (fun j oj d hjk hj hdj => hk.slots j oj d hjk hj hdj (hdone j hjk)) hk.inv
      have hup : up listed ≤ i := by
        have h1 : up listed = (listed.toList.take i).count true + (listed.toList.drop i).count true := by
          rw [up, ← List.count_append, List.take_append_drop]
        have h2 : (listed.toList.drop i).count true = 0 := by
          rw [List.count_eq_zero]
          intro hm
          obtain ⟨q, hq, he⟩ := List.getElem_of_mem hm
          simp at hq he
          have := hk.none (i + q) (by omega)
          simp at this
          rw [Array.getElem?_eq_getElem (by omega)] at this
          simp [he] at this
        have h3 := List.count_le_length (a := true) (l := listed.toList.take i)
        simp at h3
        omega
      have T := wpAny_gtail (P := P) (Q := Q) hf (fuel + 1) i listed a w (Nat.le_refl _) (by omega) hk.size (fun j hj => Iff.intro (fun h => (by
        rcases Nat.lt_or_ge j i with h2 | h2
        · exact h2
        · rw [hk.none j h2] at h
          cases h)) (fun h => hdone j h)) (by omega) hw
      exact T.2 i hi
    · exfalso
      obtain ⟨o', ho', e, he, heq, hb⟩ := depsOf_spec (htail hik)
      obtain rfl : o = o' := Option.some.inj (ho.symm.trans ho')
      have := hall e he hb
      rw [heq, hk.none (i - 1) (by omega)] at this
      cases this

theorem wp_region_guard {id : Nat} {a : Act} {w : World} (hmx : P.follows .mixedOrders = true) (V : Nat → Option (Option Bool)) (k n : Nat) (L : List (Nat × Nat)) (R : List Oper) (hf : guardB ops V n k = true) (hL : dstsOf ops k = L) (hR : ops.toList.drop k = R) (Γ : Nat → World → Value → Prop) (I : World → Prop) (hn : a.tmps.size = n) (h0 : I { w with drawn := w.drawn + 1 })
    (hV : ∀ g w u x, Γ g w u → V g = some x → u = valOf x) (hskip : ∀ j o, j < k → ops[j]? = some o → runsB V o = false → ∀ w, Γ j w undef)
    (hop : ∀ (j : Nat) o, j < k → ops[j]? = some o → runsB V o = true → ∀ a' w K, (∀ t, (∀ p ∈ L, p.2 ≠ t) → a'.tmps.getD t undef = a.tmps.getD t undef) → (∀ p ∈ needOf ops j, Γ p.1 w (a'.tmps.getD p.2 undef)) → I w →
      (∀ v w', Γ j w' v → (∀ i u, Γ i w u → Γ i w' u) → I w' → K (a'.put o.dst v) w') → o.wp P a' w K Q)
    (hend : ∀ (f : Nat → Value) w', (∀ p ∈ L, Γ p.1 w' (f p.1)) → I w' → wpList P ops Q R (L.foldl (fun b p => b.put (some p.2) (f p.1)) a) w') : (Code.region id ops true).wp P Q a w := by
  subst hL
  subst hR
  have keepL : ∀ (a' : Act), (∀ t, (∀ (j : Nat) o, j < k → ops[j]? = some o → o.dst ≠ some t) → a'.tmps.getD t undef = a.tmps.getD t undef) → ∀ t, (∀ p ∈ dstsOf ops k, p.2 ≠ t) → a'.tmps.getD t undef = a.tmps.getD t undef := by
    intro a' h t ht
    refine h t (fun j o hj ho hd => ?_)
    exact ht (j, t) (dstsOf_mem.2 ⟨hj, o, ho, hd⟩) rfl
  have hfl : ∀ j, (Array.replicate ops.size false).getD j false = false := by
    intro j
    simp [Array.getElem?_replicate]
    split <;> simp
  refine wp_region_any hmx (wpAny_guard (V := V) (Γ := Γ) (I := I) (n := n) (a0 := a) hf hV hskip (fun j o hj ho hr a' w' K hk hnd hI hK => hop j o hj ho hr a' w' K (keepL a' hk) hnd hI hK) ?_ ops.size _ a _ ⟨by simp, hn, rfl, fun _ _ => rfl, fun i _ => hfl i, fun j hl => absurd hl (by rw [hfl j]; simp), h0, fun j o d _ _ _ hl => absurd hl (by rw [hfl j]; simp)⟩ (by omega))
  intro a' w' hsz hdf hk hs hI
  have hdst : ∀ p ∈ dstsOf ops k, Γ p.1 w' (a'.tmps.getD p.2 undef) ∧ p.2 < n := by
    intro p hp
    obtain ⟨h1, o, h2, h3⟩ := dstsOf_mem.1 hp
    exact ⟨hs p.1 o p.2 h1 h2 h3, (((guardB_at hf h2).2.1 h1).2 p.2 h3).1⟩
  obtain ⟨f, hfv⟩ : ∃ f : Nat → Value, ∀ p ∈ dstsOf ops k, f p.1 = a'.tmps.getD p.2 undef := by
    refine ⟨fun j => match (ops[j]?).bind (·.dst) with | some d => a'.tmps.getD d undef | none => undef, fun p hp => ?_⟩
    obtain ⟨_, o, h2, h3⟩ := dstsOf_mem.1 hp
    simp [h2, h3]
  have E := act_eqT hsz hdf (dstsOf ops k) f a hn rfl (fun p hp => ⟨(hdst p hp).2, (hfv p hp).symm⟩) (keepL a' hk)
  rw [E]
  exact hend f w' (fun p hp => by rw [hfv p hp]; exact (hdst p hp).1) hI
end

/-- What an operation leaves: a value; a Boolean that guards; nothing, for it was left out; something that holds on while nothing old is turned; anything. -/
inductive Fg where
  | val (v : Value)
  | bit (b : Bool)
  | skip
  | pr (f : World → Value → Prop) (h : ∀ w w' v, Below w.heap.size w w' → f w v → f w' v)
  | any
def Fg.holds : Fg → World → Value → Prop
  | .val u, _, v => v = u
  | .bit b, _, v => v = .bool b
  | .skip, _, v => v = undef
  | .pr f _, w, v => f w v
  | .any, _, _ => True
theorem Fg.on {w w' : World} (hb : Below w.heap.size w w') (f : Fg) (v : Value) (h : f.holds w v) : f.holds w' v := by
  cases f with
  | val u => exact h
  | bit b => exact h
  | skip => exact h
  | pr f k => exact k w w' v hb h
  | any => trivial
def Fg.look : Fg → Option (Option Bool)
  | .bit b => some (some b)
  | .skip => some none
  | _ => none
def Fg.free : Fg → Bool
  | .skip => true
  | .any => true
  | _ => false
/-- What is left out is told as left out. -/
def skipB (ops : Array Oper) (F : List Fg) (k : Nat) : Bool :=
  (List.range k).all fun j => match ops[j]? with
    | none => true
    | some o => runsB (fun g => (F.getD g .any).look) o || (F.getD j .any).free
section
variable {P : Program} {ops : Array Oper} {Q : Exit → Act → World → Prop}
theorem wp_region_guards {id : Nat} {a : Act} {w : World} (hmx : P.follows .mixedOrders = true) (k n : Nat) (L : List (Nat × Nat)) (R : List Oper) (F : List Fg) (hf : guardB ops (fun g => (F.getD g .any).look) n k = true) (hsk : skipB ops F k = true) (hL : dstsOf ops k = L) (hR : ops.toList.drop k = R) (hn : a.tmps.size = n)
    (hop : ∀ (j : Nat) o, j < k → ops[j]? = some o → runsB (fun g => (F.getD g .any).look) o = true → ∀ a' v K, (∀ t, (∀ p ∈ L, p.2 ≠ t) → a'.tmps.getD t undef = a.tmps.getD t undef) → (∀ p ∈ needOf ops j, (F.getD p.1 .any).holds v (a'.tmps.getD p.2 undef)) → Below w.heap.size w v →
      (∀ u v', (F.getD j .any).holds v' u → Below v.heap.size v v' → K (a'.put o.dst u) v') → o.wp P a' v K Q)
    (hend : ∀ (f : Nat → Value) v, (∀ p ∈ L, (F.getD p.1 .any).holds v (f p.1)) → Below w.heap.size w v → wpList P ops Q R (L.foldl (fun b p => b.put (some p.2) (f p.1)) a) v) : (Code.region id ops true).wp P Q a w := by
  refine wp_region_guard hmx (fun g => (F.getD g .any).look) k n L R hf hL hR (fun j v u => (F.getD j .any).holds v u) (fun v => Below w.heap.size w v) hn ⟨rfl, rfl, rfl, Nat.le_refl _, fun _ _ => rfl⟩ ?_ ?_ ?_ (fun f v hf hB => hend f v hf hB)
  · intro g w u x hu hx
    cases hF : F.getD g .any <;> rw [hF] at hu hx <;> simp [Fg.look] at hx
    · subst hx
      exact hu
    · subst hx
      exact hu
  · intro j o hj ho hr w
    have h1 := List.all_eq_true.1 hsk j (List.mem_range.2 hj)
    rw [ho] at h1
    simp only [hr, Bool.false_or] at h1
    cases hF : F.getD j .any <;> rw [hF] at h1 <;> simp [Fg.free] at h1
    · rfl
    · trivial
  · intro j o hj ho hr a' v K hk hnd hB hK
    exact hop j o hj ho hr a' v K hk hnd hB (fun u v' hu hb => hK u v' hu (fun i x hx => Fg.on hb _ _ hx) (bthen hB hb))
theorem gds_of {j : Nat} {F : List Fg} {v : World} {a' : Act} (hnd : ∀ p ∈ needOf ops j, (F.getD p.1 .any).holds v (a'.tmps.getD p.2 undef)) (i t : Nat) (h : (needOf ops j).contains (i, t) = true) : (F.getD i .any).holds v (a'.eval (.tmp t)) :=
  hnd (i, t) (by simpa using h)
end
end Go.Proofs.Ytdndanbalmoklaa

namespace Go.Proofs.Ytdndanbalmoklaa
set_option maxRecDepth 100000
open Go.RowKit


theorem pfxSB (p : Pf) (b : Bool) (h : p.ok = b) (w : World) : Calls Try.prog 68 #[.agg #[.int .i64 p.base.k, .int .i64 p.base.a, .int .i64 p.base.b, .int .i64 p.base.c, .int .i64 p.base.d, .int .i64 p.len]] w fun e w' => e = .returned (.bool b) ∧ Below w.heap.size w w' := h ▸ specPrefixOk p w
theorem rangeS (lo hi : Int) (w : World) : Calls Try.prog 69 #[.int .i64 lo, .int .i64 hi] w fun e w' => e = .returned (.bool (portsB lo hi)) ∧ Below w.heap.size w w' := by
  go_enter Try.func69, Try.ntmps69
  go_wp2
  all_goals (go_ret; exact ⟨ret_bool (by first | (simp [portsB, *]; done) | (simp [portsB, *]; omega)), by go_grown⟩)
theorem rangeSB (lo hi : Int) (b : Bool) (h : portsB lo hi = b) (w : World) : Calls Try.prog 69 #[.int .i64 lo, .int .i64 hi] w fun e w' => e = .returned (.bool b) ∧ Below w.heap.size w w' := h ▸ rangeS lo hi w

theorem ruleEnd {x : Ru} (h_lo : ¬ x.prio < 1) (h_hi : ¬ x.prio > 9999) (h1 : x.src.ok = true) (h2 : x.dst.ok = true) (h_plo : ¬ x.proto < -1) (h_phi : ¬ x.proto > 255) (h3 : portsB x.slo x.shi = true) (h4 : portsB x.dlo x.dhi = true) : x.ok = (btw 1 x.tenant 8 && btw 1 x.weight 10 && btw 1 x.chain 8) := by
  have e1 : btw 1 x.prio 9999 = true := by simp [btw]; omega
  have e2 : btw (-1) x.proto 255 = true := by simp [btw]; omega
  simp [Ru.ok, e1, e2, h1, h2, h3, h4, Bool.and_assoc]

set_option maxHeartbeats 2000000 in
theorem ruleOkS_lo (x : Ru) (w : World) (h_lo : x.prio < 1) : Calls Try.prog 95 #[.agg #[.int .i64 x.prio, .int .i64 x.src.base.k, .int .i64 x.src.base.a, .int .i64 x.src.base.b, .int .i64 x.src.base.c, .int .i64 x.src.base.d, .int .i64 x.src.len, .int .i64 x.dst.base.k, .int .i64 x.dst.base.a, .int .i64 x.dst.base.b, .int .i64 x.dst.base.c, .int .i64 x.dst.base.d, .int .i64 x.dst.len, .int .i64 x.proto, .int .i64 x.slo, .int .i64 x.shi, .int .i64 x.dlo, .int .i64 x.dhi, .int .i64 x.tenant, .int .i64 x.weight, .int .i64 x.chain]] w fun e w' => e = .returned (.bool false) ∧ Below w.heap.size w w' := by
  have q0 := Lib.hid (K.new w (.cells #[.int .i64 x.prio, .int .i64 x.src.base.k, .int .i64 x.src.base.a, .int .i64 x.src.base.b, .int .i64 x.src.base.c, .int .i64 x.src.base.d, .int .i64 x.src.len, .int .i64 x.dst.base.k, .int .i64 x.dst.base.a, .int .i64 x.dst.base.b, .int .i64 x.dst.base.c, .int .i64 x.dst.base.d, .int .i64 x.dst.len, .int .i64 x.proto, .int .i64 x.slo, .int .i64 x.shi, .int .i64 x.dlo, .int .i64 x.dhi, .int .i64 x.tenant, .int .i64 x.weight, .int .i64 x.chain] 53))
  go_enter Try.func95, Try.ntmps95
  go_wp2
  go_ret
  exact ⟨rfl, (Joins.below_alloc1 w _)⟩

set_option maxHeartbeats 2000000 in
theorem ruleOkS_hi (x : Ru) (w : World) (h_lo : ¬ x.prio < 1) (h_hi : x.prio > 9999) : Calls Try.prog 95 #[.agg #[.int .i64 x.prio, .int .i64 x.src.base.k, .int .i64 x.src.base.a, .int .i64 x.src.base.b, .int .i64 x.src.base.c, .int .i64 x.src.base.d, .int .i64 x.src.len, .int .i64 x.dst.base.k, .int .i64 x.dst.base.a, .int .i64 x.dst.base.b, .int .i64 x.dst.base.c, .int .i64 x.dst.base.d, .int .i64 x.dst.len, .int .i64 x.proto, .int .i64 x.slo, .int .i64 x.shi, .int .i64 x.dlo, .int .i64 x.dhi, .int .i64 x.tenant, .int .i64 x.weight, .int .i64 x.chain]] w fun e w' => e = .returned (.bool false) ∧ Below w.heap.size w w' := by
  have q0 := Lib.hid (K.new w (.cells #[.int .i64 x.prio, .int .i64 x.src.base.k, .int .i64 x.src.base.a, .int .i64 x.src.base.b, .int .i64 x.src.base.c, .int .i64 x.src.base.d, .int .i64 x.src.len, .int .i64 x.dst.base.k, .int .i64 x.dst.base.a, .int .i64 x.dst.base.b, .int .i64 x.dst.base.c, .int .i64 x.dst.base.d, .int .i64 x.dst.len, .int .i64 x.proto, .int .i64 x.slo, .int .i64 x.shi, .int .i64 x.dlo, .int .i64 x.dhi, .int .i64 x.tenant, .int .i64 x.weight, .int .i64 x.chain] 53))
  go_enter Try.func95, Try.ntmps95
  go_wp2
  go_ret
  exact ⟨rfl, (Joins.below_alloc1 w _)⟩

set_option maxHeartbeats 2000000 in
theorem ruleOkS_src (x : Ru) (w : World) (h_lo : ¬ x.prio < 1) (h_hi : ¬ x.prio > 9999) (h_src : x.src.ok = false) : Calls Try.prog 95 #[.agg #[.int .i64 x.prio, .int .i64 x.src.base.k, .int .i64 x.src.base.a, .int .i64 x.src.base.b, .int .i64 x.src.base.c, .int .i64 x.src.base.d, .int .i64 x.src.len, .int .i64 x.dst.base.k, .int .i64 x.dst.base.a, .int .i64 x.dst.base.b, .int .i64 x.dst.base.c, .int .i64 x.dst.base.d, .int .i64 x.dst.len, .int .i64 x.proto, .int .i64 x.slo, .int .i64 x.shi, .int .i64 x.dlo, .int .i64 x.dhi, .int .i64 x.tenant, .int .i64 x.weight, .int .i64 x.chain]] w fun e w' => e = .returned (.bool false) ∧ Below w.heap.size w w' := by
  have q0 := Lib.hid (K.new w (.cells #[.int .i64 x.prio, .int .i64 x.src.base.k, .int .i64 x.src.base.a, .int .i64 x.src.base.b, .int .i64 x.src.base.c, .int .i64 x.src.base.d, .int .i64 x.src.len, .int .i64 x.dst.base.k, .int .i64 x.dst.base.a, .int .i64 x.dst.base.b, .int .i64 x.dst.base.c, .int .i64 x.dst.base.d, .int .i64 x.dst.len, .int .i64 x.proto, .int .i64 x.slo, .int .i64 x.shi, .int .i64 x.dlo, .int .i64 x.dhi, .int .i64 x.tenant, .int .i64 x.weight, .int .i64 x.chain] 53))
  have H_src := Lib.hid h_src
  clear h_src
  go_enter Try.func95, Try.ntmps95
  go_wp2_with fail
  refine Calls.mono (pfxSB x.src false H_src.out _) ?_
  rintro e w1 ⟨rfl, b1⟩
  have B1 := Lib.hid (bthen (Joins.below_alloc1 w _) b1)
  clear b1 
  go_wp2
  go_ret
  exact ⟨rfl, B1.out⟩

set_option maxHeartbeats 2000000 in
theorem ruleOkS_dst (x : Ru) (w : World) (h_lo : ¬ x.prio < 1) (h_hi : ¬ x.prio > 9999) (h_src : x.src.ok = true) (h_dst : x.dst.ok = false) : Calls Try.prog 95 #[.agg #[.int .i64 x.prio, .int .i64 x.src.base.k, .int .i64 x.src.base.a, .int .i64 x.src.base.b, .int .i64 x.src.base.c, .int .i64 x.src.base.d, .int .i64 x.src.len, .int .i64 x.dst.base.k, .int .i64 x.dst.base.a, .int .i64 x.dst.base.b, .int .i64 x.dst.base.c, .int .i64 x.dst.base.d, .int .i64 x.dst.len, .int .i64 x.proto, .int .i64 x.slo, .int .i64 x.shi, .int .i64 x.dlo, .int .i64 x.dhi, .int .i64 x.tenant, .int .i64 x.weight, .int .i64 x.chain]] w fun e w' => e = .returned (.bool false) ∧ Below w.heap.size w w' := by
  have q0 := Lib.hid (K.new w (.cells #[.int .i64 x.prio, .int .i64 x.src.base.k, .int .i64 x.src.base.a, .int .i64 x.src.base.b, .int .i64 x.src.base.c, .int .i64 x.src.base.d, .int .i64 x.src.len, .int .i64 x.dst.base.k, .int .i64 x.dst.base.a, .int .i64 x.dst.base.b, .int .i64 x.dst.base.c, .int .i64 x.dst.base.d, .int .i64 x.dst.len, .int .i64 x.proto, .int .i64 x.slo, .int .i64 x.shi, .int .i64 x.dlo, .int .i64 x.dhi, .int .i64 x.tenant, .int .i64 x.weight, .int .i64 x.chain] 53))
  have H_src := Lib.hid h_src
  have H_dst := Lib.hid h_dst
  clear h_src h_dst
  go_enter Try.func95, Try.ntmps95
  go_wp2_with fail
  refine Calls.mono (pfxSB x.src true H_src.out _) ?_
  rintro e w1 ⟨rfl, b1⟩
  have B1 := Lib.hid (bthen (Joins.below_alloc1 w _) b1)
  have q1 := Lib.hid (K.below b1 q0.out)
  have c7 := K.cell q1.out 7 _ rfl
  have c8 := K.cell q1.out 8 _ rfl
  have c9 := K.cell q1.out 9 _ rfl
  have c10 := K.cell q1.out 10 _ rfl
  have c11 := K.cell q1.out 11 _ rfl
  have c12 := K.cell q1.out 12 _ rfl
  clear b1 
  go_wp2_with fail
  refine Calls.mono (pfxSB x.dst false H_dst.out _) ?_
  rintro e w2 ⟨rfl, b2⟩
  have B2 := Lib.hid (bthen B1.out b2)
  clear b2 c7 c8 c9 c10 c11 c12
  go_wp2
  go_ret
  exact ⟨rfl, B2.out⟩

set_option maxHeartbeats 2000000 in
theorem ruleOkS_plo (x : Ru) (w : World) (h_lo : ¬ x.prio < 1) (h_hi : ¬ x.prio > 9999) (h_src : x.src.ok = true) (h_dst : x.dst.ok = true) (h_plo : x.proto < -1) : Calls Try.prog 95 #[.agg #[.int .i64 x.prio, .int .i64 x.src.base.k, .int .i64 x.src.base.a, .int .i64 x.src.base.b, .int .i64 x.src.base.c, .int .i64 x.src.base.d, .int .i64 x.src.len, .int .i64 x.dst.base.k, .int .i64 x.dst.base.a, .int .i64 x.dst.base.b, .int .i64 x.dst.base.c, .int .i64 x.dst.base.d, .int .i64 x.dst.len, .int .i64 x.proto, .int .i64 x.slo, .int .i64 x.shi, .int .i64 x.dlo, .int .i64 x.dhi, .int .i64 x.tenant, .int .i64 x.weight, .int .i64 x.chain]] w fun e w' => e = .returned (.bool false) ∧ Below w.heap.size w w' := by
  have q0 := Lib.hid (K.new w (.cells #[.int .i64 x.prio, .int .i64 x.src.base.k, .int .i64 x.src.base.a, .int .i64 x.src.base.b, .int .i64 x.src.base.c, .int .i64 x.src.base.d, .int .i64 x.src.len, .int .i64 x.dst.base.k, .int .i64 x.dst.base.a, .int .i64 x.dst.base.b, .int .i64 x.dst.base.c, .int .i64 x.dst.base.d, .int .i64 x.dst.len, .int .i64 x.proto, .int .i64 x.slo, .int .i64 x.shi, .int .i64 x.dlo, .int .i64 x.dhi, .int .i64 x.tenant, .int .i64 x.weight, .int .i64 x.chain] 53))
  have H_src := Lib.hid h_src
  have H_dst := Lib.hid h_dst
  clear h_src h_dst
  go_enter Try.func95, Try.ntmps95
  go_wp2_with fail
  refine Calls.mono (pfxSB x.src true H_src.out _) ?_
  rintro e w1 ⟨rfl, b1⟩
  have B1 := Lib.hid (bthen (Joins.below_alloc1 w _) b1)
  have q1 := Lib.hid (K.below b1 q0.out)
  have c7 := K.cell q1.out 7 _ rfl
  have c8 := K.cell q1.out 8 _ rfl
  have c9 := K.cell q1.out 9 _ rfl
  have c10 := K.cell q1.out 10 _ rfl
  have c11 := K.cell q1.out 11 _ rfl
  have c12 := K.cell q1.out 12 _ rfl
  clear b1 
  go_wp2_with fail
  refine Calls.mono (pfxSB x.dst true H_dst.out _) ?_
  rintro e w2 ⟨rfl, b2⟩
  have B2 := Lib.hid (bthen B1.out b2)
  have q2 := Lib.hid (K.below b2 q1.out)
  have c13 := K.cell q2.out 13 _ rfl
  clear b2 c7 c8 c9 c10 c11 c12
  go_wp2
  go_ret
  exact ⟨rfl, B2.out⟩

set_option maxHeartbeats 2000000 in
theorem ruleOkS_phi (x : Ru) (w : World) (h_lo : ¬ x.prio < 1) (h_hi : ¬ x.prio > 9999) (h_src : x.src.ok = true) (h_dst : x.dst.ok = true) (h_plo : ¬ x.proto < -1) (h_phi : x.proto > 255) : Calls Try.prog 95 #[.agg #[.int .i64 x.prio, .int .i64 x.src.base.k, .int .i64 x.src.base.a, .int .i64 x.src.base.b, .int .i64 x.src.base.c, .int .i64 x.src.base.d, .int .i64 x.src.len, .int .i64 x.dst.base.k, .int .i64 x.dst.base.a, .int .i64 x.dst.base.b, .int .i64 x.dst.base.c, .int .i64 x.dst.base.d, .int .i64 x.dst.len, .int .i64 x.proto, .int .i64 x.slo, .int .i64 x.shi, .int .i64 x.dlo, .int .i64 x.dhi, .int .i64 x.tenant, .int .i64 x.weight, .int .i64 x.chain]] w fun e w' => e = .returned (.bool false) ∧ Below w.heap.size w w' := by
  have q0 := Lib.hid (K.new w (.cells #[.int .i64 x.prio, .int .i64 x.src.base.k, .int .i64 x.src.base.a, .int .i64 x.src.base.b, .int .i64 x.src.base.c, .int .i64 x.src.base.d, .int .i64 x.src.len, .int .i64 x.dst.base.k, .int .i64 x.dst.base.a, .int .i64 x.dst.base.b, .int .i64 x.dst.base.c, .int .i64 x.dst.base.d, .int .i64 x.dst.len, .int .i64 x.proto, .int .i64 x.slo, .int .i64 x.shi, .int .i64 x.dlo, .int .i64 x.dhi, .int .i64 x.tenant, .int .i64 x.weight, .int .i64 x.chain] 53))
  have H_src := Lib.hid h_src
  have H_dst := Lib.hid h_dst
  clear h_src h_dst
  go_enter Try.func95, Try.ntmps95
  go_wp2_with fail
  refine Calls.mono (pfxSB x.src true H_src.out _) ?_
  rintro e w1 ⟨rfl, b1⟩
  have B1 := Lib.hid (bthen (Joins.below_alloc1 w _) b1)
  have q1 := Lib.hid (K.below b1 q0.out)
  have c7 := K.cell q1.out 7 _ rfl
  have c8 := K.cell q1.out 8 _ rfl
  have c9 := K.cell q1.out 9 _ rfl
  have c10 := K.cell q1.out 10 _ rfl
  have c11 := K.cell q1.out 11 _ rfl
  have c12 := K.cell q1.out 12 _ rfl
  clear b1 
  go_wp2_with fail
  refine Calls.mono (pfxSB x.dst true H_dst.out _) ?_
  rintro e w2 ⟨rfl, b2⟩
  have B2 := Lib.hid (bthen B1.out b2)
  have q2 := Lib.hid (K.below b2 q1.out)
  have c13 := K.cell q2.out 13 _ rfl
  clear b2 c7 c8 c9 c10 c11 c12
  go_wp2
  go_ret
  exact ⟨rfl, B2.out⟩

set_option maxHeartbeats 2000000 in
theorem ruleOkS_p1 (x : Ru) (w : World) (h_lo : ¬ x.prio < 1) (h_hi : ¬ x.prio > 9999) (h_src : x.src.ok = true) (h_dst : x.dst.ok = true) (h_plo : ¬ x.proto < -1) (h_phi : ¬ x.proto > 255) (h_p1 : portsB x.slo x.shi = false) : Calls Try.prog 95 #[.agg #[.int .i64 x.prio, .int .i64 x.src.base.k, .int .i64 x.src.base.a, .int .i64 x.src.base.b, .int .i64 x.src.base.c, .int .i64 x.src.base.d, .int .i64 x.src.len, .int .i64 x.dst.base.k, .int .i64 x.dst.base.a, .int .i64 x.dst.base.b, .int .i64 x.dst.base.c, .int .i64 x.dst.base.d, .int .i64 x.dst.len, .int .i64 x.proto, .int .i64 x.slo, .int .i64 x.shi, .int .i64 x.dlo, .int .i64 x.dhi, .int .i64 x.tenant, .int .i64 x.weight, .int .i64 x.chain]] w fun e w' => e = .returned (.bool false) ∧ Below w.heap.size w w' := by
  have q0 := Lib.hid (K.new w (.cells #[.int .i64 x.prio, .int .i64 x.src.base.k, .int .i64 x.src.base.a, .int .i64 x.src.base.b, .int .i64 x.src.base.c, .int .i64 x.src.base.d, .int .i64 x.src.len, .int .i64 x.dst.base.k, .int .i64 x.dst.base.a, .int .i64 x.dst.base.b, .int .i64 x.dst.base.c, .int .i64 x.dst.base.d, .int .i64 x.dst.len, .int .i64 x.proto, .int .i64 x.slo, .int .i64 x.shi, .int .i64 x.dlo, .int .i64 x.dhi, .int .i64 x.tenant, .int .i64 x.weight, .int .i64 x.chain] 53))
  have H_src := Lib.hid h_src
  have H_dst := Lib.hid h_dst
  have H_p1 := Lib.hid h_p1
  clear h_src h_dst h_p1
  go_enter Try.func95, Try.ntmps95
  go_wp2_with fail
  refine Calls.mono (pfxSB x.src true H_src.out _) ?_
  rintro e w1 ⟨rfl, b1⟩
  have B1 := Lib.hid (bthen (Joins.below_alloc1 w _) b1)
  have q1 := Lib.hid (K.below b1 q0.out)
  have c7 := K.cell q1.out 7 _ rfl
  have c8 := K.cell q1.out 8 _ rfl
  have c9 := K.cell q1.out 9 _ rfl
  have c10 := K.cell q1.out 10 _ rfl
  have c11 := K.cell q1.out 11 _ rfl
  have c12 := K.cell q1.out 12 _ rfl
  clear b1 
  go_wp2_with fail
  refine Calls.mono (pfxSB x.dst true H_dst.out _) ?_
  rintro e w2 ⟨rfl, b2⟩
  have B2 := Lib.hid (bthen B1.out b2)
  have q2 := Lib.hid (K.below b2 q1.out)
  have c13 := K.cell q2.out 13 _ rfl
  have c14 := K.cell q2.out 14 _ rfl
  have c15 := K.cell q2.out 15 _ rfl
  clear b2 c7 c8 c9 c10 c11 c12
  go_wp2_with fail
  refine Calls.mono (rangeSB x.slo x.shi false H_p1.out _) ?_
  rintro e w3 ⟨rfl, b3⟩
  have B3 := Lib.hid (bthen B2.out b3)
  clear b3 c13 c14 c15
  go_wp2
  go_ret
  exact ⟨rfl, B3.out⟩

set_option maxHeartbeats 2000000 in
theorem ruleOkS_p2 (x : Ru) (w : World) (h_lo : ¬ x.prio < 1) (h_hi : ¬ x.prio > 9999) (h_src : x.src.ok = true) (h_dst : x.dst.ok = true) (h_plo : ¬ x.proto < -1) (h_phi : ¬ x.proto > 255) (h_p1 : portsB x.slo x.shi = true) (h_p2 : portsB x.dlo x.dhi = false) : Calls Try.prog 95 #[.agg #[.int .i64 x.prio, .int .i64 x.src.base.k, .int .i64 x.src.base.a, .int .i64 x.src.base.b, .int .i64 x.src.base.c, .int .i64 x.src.base.d, .int .i64 x.src.len, .int .i64 x.dst.base.k, .int .i64 x.dst.base.a, .int .i64 x.dst.base.b, .int .i64 x.dst.base.c, .int .i64 x.dst.base.d, .int .i64 x.dst.len, .int .i64 x.proto, .int .i64 x.slo, .int .i64 x.shi, .int .i64 x.dlo, .int .i64 x.dhi, .int .i64 x.tenant, .int .i64 x.weight, .int .i64 x.chain]] w fun e w' => e = .returned (.bool false) ∧ Below w.heap.size w w' := by
  have q0 := Lib.hid (K.new w (.cells #[.int .i64 x.prio, .int .i64 x.src.base.k, .int .i64 x.src.base.a, .int .i64 x.src.base.b, .int .i64 x.src.base.c, .int .i64 x.src.base.d, .int .i64 x.src.len, .int .i64 x.dst.base.k, .int .i64 x.dst.base.a, .int .i64 x.dst.base.b, .int .i64 x.dst.base.c, .int .i64 x.dst.base.d, .int .i64 x.dst.len, .int .i64 x.proto, .int .i64 x.slo, .int .i64 x.shi, .int .i64 x.dlo, .int .i64 x.dhi, .int .i64 x.tenant, .int .i64 x.weight, .int .i64 x.chain] 53))
  have H_src := Lib.hid h_src
  have H_dst := Lib.hid h_dst
  have H_p1 := Lib.hid h_p1
  have H_p2 := Lib.hid h_p2
  clear h_src h_dst h_p1 h_p2
  go_enter Try.func95, Try.ntmps95
  go_wp2_with fail
  refine Calls.mono (pfxSB x.src true H_src.out _) ?_
  rintro e w1 ⟨rfl, b1⟩
  have B1 := Lib.hid (bthen (Joins.below_alloc1 w _) b1)
  have q1 := Lib.hid (K.below b1 q0.out)
  have c7 := K.cell q1.out 7 _ rfl
  have c8 := K.cell q1.out 8 _ rfl
  have c9 := K.cell q1.out 9 _ rfl
  have c10 := K.cell q1.out 10 _ rfl
  have c11 := K.cell q1.out 11 _ rfl
  have c12 := K.cell q1.out 12 _ rfl
  clear b1 
  go_wp2_with fail
  refine Calls.mono (pfxSB x.dst true H_dst.out _) ?_
  rintro e w2 ⟨rfl, b2⟩
  have B2 := Lib.hid (bthen B1.out b2)
  have q2 := Lib.hid (K.below b2 q1.out)
  have c13 := K.cell q2.out 13 _ rfl
  have c14 := K.cell q2.out 14 _ rfl
  have c15 := K.cell q2.out 15 _ rfl
  clear b2 c7 c8 c9 c10 c11 c12
  go_wp2_with fail
  refine Calls.mono (rangeSB x.slo x.shi true H_p1.out _) ?_
  rintro e w3 ⟨rfl, b3⟩
  have B3 := Lib.hid (bthen B2.out b3)
  have q3 := Lib.hid (K.below b3 q2.out)
  have c16 := K.cell q3.out 16 _ rfl
  have c17 := K.cell q3.out 17 _ rfl
  clear b3 c13 c14 c15
  go_wp2_with fail
  refine Calls.mono (rangeSB x.dlo x.dhi false H_p2.out _) ?_
  rintro e w4 ⟨rfl, b4⟩
  have B4 := Lib.hid (bthen B3.out b4)
  clear b4 c16 c17
  go_wp2
  go_ret
  exact ⟨rfl, B4.out⟩

set_option maxHeartbeats 2000000 in
theorem ruleOkS_end (x : Ru) (w : World) (h_lo : ¬ x.prio < 1) (h_hi : ¬ x.prio > 9999) (h_src : x.src.ok = true) (h_dst : x.dst.ok = true) (h_plo : ¬ x.proto < -1) (h_phi : ¬ x.proto > 255) (h_p1 : portsB x.slo x.shi = true) (h_p2 : portsB x.dlo x.dhi = true) : Calls Try.prog 95 #[.agg #[.int .i64 x.prio, .int .i64 x.src.base.k, .int .i64 x.src.base.a, .int .i64 x.src.base.b, .int .i64 x.src.base.c, .int .i64 x.src.base.d, .int .i64 x.src.len, .int .i64 x.dst.base.k, .int .i64 x.dst.base.a, .int .i64 x.dst.base.b, .int .i64 x.dst.base.c, .int .i64 x.dst.base.d, .int .i64 x.dst.len, .int .i64 x.proto, .int .i64 x.slo, .int .i64 x.shi, .int .i64 x.dlo, .int .i64 x.dhi, .int .i64 x.tenant, .int .i64 x.weight, .int .i64 x.chain]] w fun e w' => e = .returned (.bool x.ok) ∧ Below w.heap.size w w' := by
  have q0 := Lib.hid (K.new w (.cells #[.int .i64 x.prio, .int .i64 x.src.base.k, .int .i64 x.src.base.a, .int .i64 x.src.base.b, .int .i64 x.src.base.c, .int .i64 x.src.base.d, .int .i64 x.src.len, .int .i64 x.dst.base.k, .int .i64 x.dst.base.a, .int .i64 x.dst.base.b, .int .i64 x.dst.base.c, .int .i64 x.dst.base.d, .int .i64 x.dst.len, .int .i64 x.proto, .int .i64 x.slo, .int .i64 x.shi, .int .i64 x.dlo, .int .i64 x.dhi, .int .i64 x.tenant, .int .i64 x.weight, .int .i64 x.chain] 53))
  have HE := Lib.hid (ruleEnd (x := x) h_lo h_hi h_src h_dst h_plo h_phi h_p1 h_p2)
  have H_src := Lib.hid h_src
  have H_dst := Lib.hid h_dst
  have H_p1 := Lib.hid h_p1
  have H_p2 := Lib.hid h_p2
  clear h_src h_dst h_p1 h_p2
  go_enter Try.func95, Try.ntmps95
  go_wp2_with fail
  refine Calls.mono (pfxSB x.src true H_src.out _) ?_
  rintro e w1 ⟨rfl, b1⟩
  have B1 := Lib.hid (bthen (Joins.below_alloc1 w _) b1)
  have q1 := Lib.hid (K.below b1 q0.out)
  have c7 := K.cell q1.out 7 _ rfl
  have c8 := K.cell q1.out 8 _ rfl
  have c9 := K.cell q1.out 9 _ rfl
  have c10 := K.cell q1.out 10 _ rfl
  have c11 := K.cell q1.out 11 _ rfl
  have c12 := K.cell q1.out 12 _ rfl
  clear b1 
  go_wp2_with fail
  refine Calls.mono (pfxSB x.dst true H_dst.out _) ?_
  rintro e w2 ⟨rfl, b2⟩
  have B2 := Lib.hid (bthen B1.out b2)
  have q2 := Lib.hid (K.below b2 q1.out)
  have c13 := K.cell q2.out 13 _ rfl
  have c14 := K.cell q2.out 14 _ rfl
  have c15 := K.cell q2.out 15 _ rfl
  clear b2 c7 c8 c9 c10 c11 c12
  go_wp2_with fail
  refine Calls.mono (rangeSB x.slo x.shi true H_p1.out _) ?_
  rintro e w3 ⟨rfl, b3⟩
  have B3 := Lib.hid (bthen B2.out b3)
  have q3 := Lib.hid (K.below b3 q2.out)
  have c16 := K.cell q3.out 16 _ rfl
  have c17 := K.cell q3.out 17 _ rfl
  clear b3 c13 c14 c15
  go_wp2_with fail
  refine Calls.mono (rangeSB x.dlo x.dhi true H_p2.out _) ?_
  rintro e w4 ⟨rfl, b4⟩
  have B4 := Lib.hid (bthen B3.out b4)
  have q4 := Lib.hid (K.below b4 q3.out)
  have c18 := K.cell q4.out 18 _ rfl
  have c19 := K.cell q4.out 19 _ rfl
  have c20 := K.cell q4.out 20 _ rfl
  clear b4 c16 c17
  go_wp2
  all_goals (go_ret; exact ⟨ret_bool (HE.out.symm ▸ (by first | (simp [btw, *]; done) | (simp [btw]; omega) | (simp [btw, *]; omega))), B4.out⟩)

theorem ruleOkS (x : Ru) (w : World) : Calls Try.prog 95 #[.agg #[.int .i64 x.prio, .int .i64 x.src.base.k, .int .i64 x.src.base.a, .int .i64 x.src.base.b, .int .i64 x.src.base.c, .int .i64 x.src.base.d, .int .i64 x.src.len, .int .i64 x.dst.base.k, .int .i64 x.dst.base.a, .int .i64 x.dst.base.b, .int .i64 x.dst.base.c, .int .i64 x.dst.base.d, .int .i64 x.dst.len, .int .i64 x.proto, .int .i64 x.slo, .int .i64 x.shi, .int .i64 x.dlo, .int .i64 x.dhi, .int .i64 x.tenant, .int .i64 x.weight, .int .i64 x.chain]] w fun e w' => e = .returned (.bool x.ok) ∧ Below w.heap.size w w' := by
  by_cases h_lo : x.prio < 1
  · skip
    have e : x.ok = false := by
      have e : btw 1 x.prio 9999 = false := by simp [btw]; omega
      simp [Ru.ok, e]
    rw [e]
    exact ruleOkS_lo x w h_lo
  · skip
    by_cases h_hi : x.prio > 9999
    · skip
      have e : x.ok = false := by
        have e : btw 1 x.prio 9999 = false := by simp [btw]; omega
        simp [Ru.ok, e]
      rw [e]
      exact ruleOkS_hi x w h_lo h_hi
    · skip
      cases h_src : x.src.ok with
      | false =>
        have e : x.ok = false := by simp [Ru.ok, h_src]
        rw [e]
        exact ruleOkS_src x w h_lo h_hi h_src
      | true =>
        cases h_dst : x.dst.ok with
        | false =>
          have e : x.ok = false := by simp [Ru.ok, h_dst]
          rw [e]
          exact ruleOkS_dst x w h_lo h_hi h_src h_dst
        | true =>
          by_cases h_plo : x.proto < -1
          · skip
            have e : x.ok = false := by
              have e : btw (-1) x.proto 255 = false := by simp [btw]; omega
              simp [Ru.ok, e]
            rw [e]
            exact ruleOkS_plo x w h_lo h_hi h_src h_dst h_plo
          · skip
            by_cases h_phi : x.proto > 255
            · skip
              have e : x.ok = false := by
                have e : btw (-1) x.proto 255 = false := by simp [btw]; omega
                simp [Ru.ok, e]
              rw [e]
              exact ruleOkS_phi x w h_lo h_hi h_src h_dst h_plo h_phi
            · skip
              cases h_p1 : portsB x.slo x.shi with
              | false =>
                have e : x.ok = false := by simp [Ru.ok, h_p1]
                rw [e]
                exact ruleOkS_p1 x w h_lo h_hi h_src h_dst h_plo h_phi h_p1
              | true =>
                cases h_p2 : portsB x.dlo x.dhi with
                | false =>
                  have e : x.ok = false := by simp [Ru.ok, h_p2]
                  rw [e]
                  exact ruleOkS_p2 x w h_lo h_hi h_src h_dst h_plo h_phi h_p1 h_p2
                | true =>
                  exact ruleOkS_end x w h_lo h_hi h_src h_dst h_plo h_phi h_p1 h_p2

theorem ruleOkSB (x : Ru) (b : Bool) (h : x.ok = b) (w : World) : Calls Try.prog 95 #[.agg #[.int .i64 x.prio, .int .i64 x.src.base.k, .int .i64 x.src.base.a, .int .i64 x.src.base.b, .int .i64 x.src.base.c, .int .i64 x.src.base.d, .int .i64 x.src.len, .int .i64 x.dst.base.k, .int .i64 x.dst.base.a, .int .i64 x.dst.base.b, .int .i64 x.dst.base.c, .int .i64 x.dst.base.d, .int .i64 x.dst.len, .int .i64 x.proto, .int .i64 x.slo, .int .i64 x.shi, .int .i64 x.dlo, .int .i64 x.dhi, .int .i64 x.tenant, .int .i64 x.weight, .int .i64 x.chain]] w fun e w' => e = .returned (.bool b) ∧ Below w.heap.size w w' := h ▸ ruleOkS x w
end Go.Proofs.Ytdndanbalmoklaa

namespace Go.Proofs.Ytdndanbalmoklaa
set_option maxRecDepth 100000
open Go.RowKit


theorem innSB (p q : Pf) (b : Bool) (h : p.inn q = b) (w : World) : Calls Try.prog 149 #[.agg #[.int .i64 p.base.k, .int .i64 p.base.a, .int .i64 p.base.b, .int .i64 p.base.c, .int .i64 p.base.d, .int .i64 p.len], .agg #[.int .i64 q.base.k, .int .i64 q.base.a, .int .i64 q.base.b, .int .i64 q.base.c, .int .i64 q.base.d, .int .i64 q.len]] w fun e w' => e = .returned (.bool b) ∧ Below w.heap.size w w' := h ▸ specPrefixIn p q w

-- the model

set_option maxHeartbeats 4000000 in
theorem ruleCovS_0 (x y : Ru) (w : World) (h0 : x.ok = false) : Calls Try.prog 104 #[.agg #[.int .i64 x.prio, .int .i64 x.src.base.k, .int .i64 x.src.base.a, .int .i64 x.src.base.b, .int .i64 x.src.base.c, .int .i64 x.src.base.d, .int .i64 x.src.len, .int .i64 x.dst.base.k, .int .i64 x.dst.base.a, .int .i64 x.dst.base.b, .int .i64 x.dst.base.c, .int .i64 x.dst.base.d, .int .i64 x.dst.len, .int .i64 x.proto, .int .i64 x.slo, .int .i64 x.shi, .int .i64 x.dlo, .int .i64 x.dhi, .int .i64 x.tenant, .int .i64 x.weight, .int .i64 x.chain], .agg #[.int .i64 y.prio, .int .i64 y.src.base.k, .int .i64 y.src.base.a, .int .i64 y.src.base.b, .int .i64 y.src.base.c, .int .i64 y.src.base.d, .int .i64 y.src.len, .int .i64 y.dst.base.k, .int .i64 y.dst.base.a, .int .i64 y.dst.base.b, .int .i64 y.dst.base.c, .int .i64 y.dst.base.d, .int .i64 y.dst.len, .int .i64 y.proto, .int .i64 y.slo, .int .i64 y.shi, .int .i64 y.dlo, .int .i64 y.dhi, .int .i64 y.tenant, .int .i64 y.weight, .int .i64 y.chain]] w fun e w' => e = .returned (.bool false) ∧ Below w.heap.size w w' := by
  have q0 : Hid (((w.alloc (.cells #[.int .i64 x.prio, .int .i64 x.src.base.k, .int .i64 x.src.base.a, .int .i64 x.src.base.b, .int .i64 x.src.base.c, .int .i64 x.src.base.d, .int .i64 x.src.len, .int .i64 x.dst.base.k, .int .i64 x.dst.base.a, .int .i64 x.dst.base.b, .int .i64 x.dst.base.c, .int .i64 x.dst.base.d, .int .i64 x.dst.len, .int .i64 x.proto, .int .i64 x.slo, .int .i64 x.shi, .int .i64 x.dlo, .int .i64 x.dhi, .int .i64 x.tenant, .int .i64 x.weight, .int .i64 x.chain] 53)).alloc (.cells #[.int .i64 y.prio, .int .i64 y.src.base.k, .int .i64 y.src.base.a, .int .i64 y.src.base.b, .int .i64 y.src.base.c, .int .i64 y.src.base.d, .int .i64 y.src.len, .int .i64 y.dst.base.k, .int .i64 y.dst.base.a, .int .i64 y.dst.base.b, .int .i64 y.dst.base.c, .int .i64 y.dst.base.d, .int .i64 y.dst.len, .int .i64 y.proto, .int .i64 y.slo, .int .i64 y.shi, .int .i64 y.dlo, .int .i64 y.dhi, .int .i64 y.tenant, .int .i64 y.weight, .int .i64 y.chain] 53)).heap[w.heap.size]? = some (.cells #[.int .i64 x.prio, .int .i64 x.src.base.k, .int .i64 x.src.base.a, .int .i64 x.src.base.b, .int .i64 x.src.base.c, .int .i64 x.src.base.d, .int .i64 x.src.len, .int .i64 x.dst.base.k, .int .i64 x.dst.base.a, .int .i64 x.dst.base.b, .int .i64 x.dst.base.c, .int .i64 x.dst.base.d, .int .i64 x.dst.len, .int .i64 x.proto, .int .i64 x.slo, .int .i64 x.shi, .int .i64 x.dlo, .int .i64 x.dhi, .int .i64 x.tenant, .int .i64 x.weight, .int .i64 x.chain] 53 (0, 0))) := Lib.hid (by repeat (first | exact K.newAt (by first | rfl | (simp; done)) | refine K.oldAt (by first | (simp; done) | (simp; omega)) ?_))
  have s0 : Hid (((w.alloc (.cells #[.int .i64 x.prio, .int .i64 x.src.base.k, .int .i64 x.src.base.a, .int .i64 x.src.base.b, .int .i64 x.src.base.c, .int .i64 x.src.base.d, .int .i64 x.src.len, .int .i64 x.dst.base.k, .int .i64 x.dst.base.a, .int .i64 x.dst.base.b, .int .i64 x.dst.base.c, .int .i64 x.dst.base.d, .int .i64 x.dst.len, .int .i64 x.proto, .int .i64 x.slo, .int .i64 x.shi, .int .i64 x.dlo, .int .i64 x.dhi, .int .i64 x.tenant, .int .i64 x.weight, .int .i64 x.chain] 53)).alloc (.cells #[.int .i64 y.prio, .int .i64 y.src.base.k, .int .i64 y.src.base.a, .int .i64 y.src.base.b, .int .i64 y.src.base.c, .int .i64 y.src.base.d, .int .i64 y.src.len, .int .i64 y.dst.base.k, .int .i64 y.dst.base.a, .int .i64 y.dst.base.b, .int .i64 y.dst.base.c, .int .i64 y.dst.base.d, .int .i64 y.dst.len, .int .i64 y.proto, .int .i64 y.slo, .int .i64 y.shi, .int .i64 y.dlo, .int .i64 y.dhi, .int .i64 y.tenant, .int .i64 y.weight, .int .i64 y.chain] 53)).heap[w.heap.size + 1]? = some (.cells #[.int .i64 y.prio, .int .i64 y.src.base.k, .int .i64 y.src.base.a, .int .i64 y.src.base.b, .int .i64 y.src.base.c, .int .i64 y.src.base.d, .int .i64 y.src.len, .int .i64 y.dst.base.k, .int .i64 y.dst.base.a, .int .i64 y.dst.base.b, .int .i64 y.dst.base.c, .int .i64 y.dst.base.d, .int .i64 y.dst.len, .int .i64 y.proto, .int .i64 y.slo, .int .i64 y.shi, .int .i64 y.dlo, .int .i64 y.dhi, .int .i64 y.tenant, .int .i64 y.weight, .int .i64 y.chain] 53 (0, 0))) := Lib.hid (by repeat (first | exact K.newAt (by first | rfl | (simp; done)) | refine K.oldAt (by first | (simp; done) | (simp; omega)) ?_))
  have H0 := Lib.hid h0
  clear h0
  go_enter Try.func104, Try.ntmps104
  go_wp2_with (with_reducible refine loadR rfl _ rfl w.heap.size rfl q0.out ?_)
  refine Calls.mono (ruleOkSB x false H0.out _) ?_
  rintro e w1 ⟨rfl, b1⟩
  have B1 := Lib.hid (bthen (Joins.below_alloc2 w _ _) b1)
  clear b1 
  go_wp2
  go_ret
  exact ⟨rfl, B1.out⟩

set_option maxHeartbeats 4000000 in
theorem ruleCovS_1 (x y : Ru) (w : World) (h0 : x.ok = true) (h1 : y.ok = false) : Calls Try.prog 104 #[.agg #[.int .i64 x.prio, .int .i64 x.src.base.k, .int .i64 x.src.base.a, .int .i64 x.src.base.b, .int .i64 x.src.base.c, .int .i64 x.src.base.d, .int .i64 x.src.len, .int .i64 x.dst.base.k, .int .i64 x.dst.base.a, .int .i64 x.dst.base.b, .int .i64 x.dst.base.c, .int .i64 x.dst.base.d, .int .i64 x.dst.len, .int .i64 x.proto, .int .i64 x.slo, .int .i64 x.shi, .int .i64 x.dlo, .int .i64 x.dhi, .int .i64 x.tenant, .int .i64 x.weight, .int .i64 x.chain], .agg #[.int .i64 y.prio, .int .i64 y.src.base.k, .int .i64 y.src.base.a, .int .i64 y.src.base.b, .int .i64 y.src.base.c, .int .i64 y.src.base.d, .int .i64 y.src.len, .int .i64 y.dst.base.k, .int .i64 y.dst.base.a, .int .i64 y.dst.base.b, .int .i64 y.dst.base.c, .int .i64 y.dst.base.d, .int .i64 y.dst.len, .int .i64 y.proto, .int .i64 y.slo, .int .i64 y.shi, .int .i64 y.dlo, .int .i64 y.dhi, .int .i64 y.tenant, .int .i64 y.weight, .int .i64 y.chain]] w fun e w' => e = .returned (.bool false) ∧ Below w.heap.size w w' := by
  have q0 : Hid (((w.alloc (.cells #[.int .i64 x.prio, .int .i64 x.src.base.k, .int .i64 x.src.base.a, .int .i64 x.src.base.b, .int .i64 x.src.base.c, .int .i64 x.src.base.d, .int .i64 x.src.len, .int .i64 x.dst.base.k, .int .i64 x.dst.base.a, .int .i64 x.dst.base.b, .int .i64 x.dst.base.c, .int .i64 x.dst.base.d, .int .i64 x.dst.len, .int .i64 x.proto, .int .i64 x.slo, .int .i64 x.shi, .int .i64 x.dlo, .int .i64 x.dhi, .int .i64 x.tenant, .int .i64 x.weight, .int .i64 x.chain] 53)).alloc (.cells #[.int .i64 y.prio, .int .i64 y.src.base.k, .int .i64 y.src.base.a, .int .i64 y.src.base.b, .int .i64 y.src.base.c, .int .i64 y.src.base.d, .int .i64 y.src.len, .int .i64 y.dst.base.k, .int .i64 y.dst.base.a, .int .i64 y.dst.base.b, .int .i64 y.dst.base.c, .int .i64 y.dst.base.d, .int .i64 y.dst.len, .int .i64 y.proto, .int .i64 y.slo, .int .i64 y.shi, .int .i64 y.dlo, .int .i64 y.dhi, .int .i64 y.tenant, .int .i64 y.weight, .int .i64 y.chain] 53)).heap[w.heap.size]? = some (.cells #[.int .i64 x.prio, .int .i64 x.src.base.k, .int .i64 x.src.base.a, .int .i64 x.src.base.b, .int .i64 x.src.base.c, .int .i64 x.src.base.d, .int .i64 x.src.len, .int .i64 x.dst.base.k, .int .i64 x.dst.base.a, .int .i64 x.dst.base.b, .int .i64 x.dst.base.c, .int .i64 x.dst.base.d, .int .i64 x.dst.len, .int .i64 x.proto, .int .i64 x.slo, .int .i64 x.shi, .int .i64 x.dlo, .int .i64 x.dhi, .int .i64 x.tenant, .int .i64 x.weight, .int .i64 x.chain] 53 (0, 0))) := Lib.hid (by repeat (first | exact K.newAt (by first | rfl | (simp; done)) | refine K.oldAt (by first | (simp; done) | (simp; omega)) ?_))
  have s0 : Hid (((w.alloc (.cells #[.int .i64 x.prio, .int .i64 x.src.base.k, .int .i64 x.src.base.a, .int .i64 x.src.base.b, .int .i64 x.src.base.c, .int .i64 x.src.base.d, .int .i64 x.src.len, .int .i64 x.dst.base.k, .int .i64 x.dst.base.a, .int .i64 x.dst.base.b, .int .i64 x.dst.base.c, .int .i64 x.dst.base.d, .int .i64 x.dst.len, .int .i64 x.proto, .int .i64 x.slo, .int .i64 x.shi, .int .i64 x.dlo, .int .i64 x.dhi, .int .i64 x.tenant, .int .i64 x.weight, .int .i64 x.chain] 53)).alloc (.cells #[.int .i64 y.prio, .int .i64 y.src.base.k, .int .i64 y.src.base.a, .int .i64 y.src.base.b, .int .i64 y.src.base.c, .int .i64 y.src.base.d, .int .i64 y.src.len, .int .i64 y.dst.base.k, .int .i64 y.dst.base.a, .int .i64 y.dst.base.b, .int .i64 y.dst.base.c, .int .i64 y.dst.base.d, .int .i64 y.dst.len, .int .i64 y.proto, .int .i64 y.slo, .int .i64 y.shi, .int .i64 y.dlo, .int .i64 y.dhi, .int .i64 y.tenant, .int .i64 y.weight, .int .i64 y.chain] 53)).heap[w.heap.size + 1]? = some (.cells #[.int .i64 y.prio, .int .i64 y.src.base.k, .int .i64 y.src.base.a, .int .i64 y.src.base.b, .int .i64 y.src.base.c, .int .i64 y.src.base.d, .int .i64 y.src.len, .int .i64 y.dst.base.k, .int .i64 y.dst.base.a, .int .i64 y.dst.base.b, .int .i64 y.dst.base.c, .int .i64 y.dst.base.d, .int .i64 y.dst.len, .int .i64 y.proto, .int .i64 y.slo, .int .i64 y.shi, .int .i64 y.dlo, .int .i64 y.dhi, .int .i64 y.tenant, .int .i64 y.weight, .int .i64 y.chain] 53 (0, 0))) := Lib.hid (by repeat (first | exact K.newAt (by first | rfl | (simp; done)) | refine K.oldAt (by first | (simp; done) | (simp; omega)) ?_))
  have H0 := Lib.hid h0
  have H1 := Lib.hid h1
  clear h0 h1
  go_enter Try.func104, Try.ntmps104
  go_wp2_with (with_reducible refine loadR rfl _ rfl w.heap.size rfl q0.out ?_)
  refine Calls.mono (ruleOkSB x true H0.out _) ?_
  rintro e w1 ⟨rfl, b1⟩
  have B1 := Lib.hid (bthen (Joins.below_alloc2 w _ _) b1)
  have q1 := Lib.hid (K.below b1 q0.out)
  have s1 := Lib.hid (K.below b1 s0.out)
  clear b1 
  go_wp2_with (refine loadRGd _ rfl (w.heap.size + 1) rfl (by rfl) s1.out ?_)
  refine Calls.mono (ruleOkSB y false H1.out _) ?_
  rintro e w2 ⟨rfl, b2⟩
  have B2 := Lib.hid (bthen B1.out b2)
  clear b2 
  go_wp2
  go_ret
  exact ⟨rfl, B2.out⟩

set_option maxHeartbeats 4000000 in
theorem ruleCovS_2 (x y : Ru) (w : World) (h0 : x.ok = true) (h1 : y.ok = true) (h2 : y.src.inn x.src = false) : Calls Try.prog 104 #[.agg #[.int .i64 x.prio, .int .i64 x.src.base.k, .int .i64 x.src.base.a, .int .i64 x.src.base.b, .int .i64 x.src.base.c, .int .i64 x.src.base.d, .int .i64 x.src.len, .int .i64 x.dst.base.k, .int .i64 x.dst.base.a, .int .i64 x.dst.base.b, .int .i64 x.dst.base.c, .int .i64 x.dst.base.d, .int .i64 x.dst.len, .int .i64 x.proto, .int .i64 x.slo, .int .i64 x.shi, .int .i64 x.dlo, .int .i64 x.dhi, .int .i64 x.tenant, .int .i64 x.weight, .int .i64 x.chain], .agg #[.int .i64 y.prio, .int .i64 y.src.base.k, .int .i64 y.src.base.a, .int .i64 y.src.base.b, .int .i64 y.src.base.c, .int .i64 y.src.base.d, .int .i64 y.src.len, .int .i64 y.dst.base.k, .int .i64 y.dst.base.a, .int .i64 y.dst.base.b, .int .i64 y.dst.base.c, .int .i64 y.dst.base.d, .int .i64 y.dst.len, .int .i64 y.proto, .int .i64 y.slo, .int .i64 y.shi, .int .i64 y.dlo, .int .i64 y.dhi, .int .i64 y.tenant, .int .i64 y.weight, .int .i64 y.chain]] w fun e w' => e = .returned (.bool false) ∧ Below w.heap.size w w' := by
  have q0 : Hid (((w.alloc (.cells #[.int .i64 x.prio, .int .i64 x.src.base.k, .int .i64 x.src.base.a, .int .i64 x.src.base.b, .int .i64 x.src.base.c, .int .i64 x.src.base.d, .int .i64 x.src.len, .int .i64 x.dst.base.k, .int .i64 x.dst.base.a, .int .i64 x.dst.base.b, .int .i64 x.dst.base.c, .int .i64 x.dst.base.d, .int .i64 x.dst.len, .int .i64 x.proto, .int .i64 x.slo, .int .i64 x.shi, .int .i64 x.dlo, .int .i64 x.dhi, .int .i64 x.tenant, .int .i64 x.weight, .int .i64 x.chain] 53)).alloc (.cells #[.int .i64 y.prio, .int .i64 y.src.base.k, .int .i64 y.src.base.a, .int .i64 y.src.base.b, .int .i64 y.src.base.c, .int .i64 y.src.base.d, .int .i64 y.src.len, .int .i64 y.dst.base.k, .int .i64 y.dst.base.a, .int .i64 y.dst.base.b, .int .i64 y.dst.base.c, .int .i64 y.dst.base.d, .int .i64 y.dst.len, .int .i64 y.proto, .int .i64 y.slo, .int .i64 y.shi, .int .i64 y.dlo, .int .i64 y.dhi, .int .i64 y.tenant, .int .i64 y.weight, .int .i64 y.chain] 53)).heap[w.heap.size]? = some (.cells #[.int .i64 x.prio, .int .i64 x.src.base.k, .int .i64 x.src.base.a, .int .i64 x.src.base.b, .int .i64 x.src.base.c, .int .i64 x.src.base.d, .int .i64 x.src.len, .int .i64 x.dst.base.k, .int .i64 x.dst.base.a, .int .i64 x.dst.base.b, .int .i64 x.dst.base.c, .int .i64 x.dst.base.d, .int .i64 x.dst.len, .int .i64 x.proto, .int .i64 x.slo, .int .i64 x.shi, .int .i64 x.dlo, .int .i64 x.dhi, .int .i64 x.tenant, .int .i64 x.weight, .int .i64 x.chain] 53 (0, 0))) := Lib.hid (by repeat (first | exact K.newAt (by first | rfl | (simp; done)) | refine K.oldAt (by first | (simp; done) | (simp; omega)) ?_))
  have s0 : Hid (((w.alloc (.cells #[.int .i64 x.prio, .int .i64 x.src.base.k, .int .i64 x.src.base.a, .int .i64 x.src.base.b, .int .i64 x.src.base.c, .int .i64 x.src.base.d, .int .i64 x.src.len, .int .i64 x.dst.base.k, .int .i64 x.dst.base.a, .int .i64 x.dst.base.b, .int .i64 x.dst.base.c, .int .i64 x.dst.base.d, .int .i64 x.dst.len, .int .i64 x.proto, .int .i64 x.slo, .int .i64 x.shi, .int .i64 x.dlo, .int .i64 x.dhi, .int .i64 x.tenant, .int .i64 x.weight, .int .i64 x.chain] 53)).alloc (.cells #[.int .i64 y.prio, .int .i64 y.src.base.k, .int .i64 y.src.base.a, .int .i64 y.src.base.b, .int .i64 y.src.base.c, .int .i64 y.src.base.d, .int .i64 y.src.len, .int .i64 y.dst.base.k, .int .i64 y.dst.base.a, .int .i64 y.dst.base.b, .int .i64 y.dst.base.c, .int .i64 y.dst.base.d, .int .i64 y.dst.len, .int .i64 y.proto, .int .i64 y.slo, .int .i64 y.shi, .int .i64 y.dlo, .int .i64 y.dhi, .int .i64 y.tenant, .int .i64 y.weight, .int .i64 y.chain] 53)).heap[w.heap.size + 1]? = some (.cells #[.int .i64 y.prio, .int .i64 y.src.base.k, .int .i64 y.src.base.a, .int .i64 y.src.base.b, .int .i64 y.src.base.c, .int .i64 y.src.base.d, .int .i64 y.src.len, .int .i64 y.dst.base.k, .int .i64 y.dst.base.a, .int .i64 y.dst.base.b, .int .i64 y.dst.base.c, .int .i64 y.dst.base.d, .int .i64 y.dst.len, .int .i64 y.proto, .int .i64 y.slo, .int .i64 y.shi, .int .i64 y.dlo, .int .i64 y.dhi, .int .i64 y.tenant, .int .i64 y.weight, .int .i64 y.chain] 53 (0, 0))) := Lib.hid (by repeat (first | exact K.newAt (by first | rfl | (simp; done)) | refine K.oldAt (by first | (simp; done) | (simp; omega)) ?_))
  have H0 := Lib.hid h0
  have H1 := Lib.hid h1
  have H2 := Lib.hid h2
  clear h0 h1 h2
  go_enter Try.func104, Try.ntmps104
  go_wp2_with (with_reducible refine loadR rfl _ rfl w.heap.size rfl q0.out ?_)
  refine Calls.mono (ruleOkSB x true H0.out _) ?_
  rintro e w1 ⟨rfl, b1⟩
  have B1 := Lib.hid (bthen (Joins.below_alloc2 w _ _) b1)
  have q1 := Lib.hid (K.below b1 q0.out)
  have s1 := Lib.hid (K.below b1 s0.out)
  clear b1 
  go_wp2_with (refine loadRGd _ rfl (w.heap.size + 1) rfl (by rfl) s1.out ?_)
  refine Calls.mono (ruleOkSB y true H1.out _) ?_
  rintro e w2 ⟨rfl, b2⟩
  have B2 := Lib.hid (bthen B1.out b2)
  have q2 := Lib.hid (K.below b2 q1.out)
  have s2 := Lib.hid (K.below b2 s1.out)
  have cq1 := K.cell q2.out 1 _ rfl
  have cq2 := K.cell q2.out 2 _ rfl
  have cq3 := K.cell q2.out 3 _ rfl
  have cq4 := K.cell q2.out 4 _ rfl
  have cq5 := K.cell q2.out 5 _ rfl
  have cq6 := K.cell q2.out 6 _ rfl
  have cs1 := K.cell s2.out 1 _ rfl
  have cs2 := K.cell s2.out 2 _ rfl
  have cs3 := K.cell s2.out 3 _ rfl
  have cs4 := K.cell s2.out 4 _ rfl
  have cs5 := K.cell s2.out 5 _ rfl
  have cs6 := K.cell s2.out 6 _ rfl
  clear b2 
  go_wp2_with fail
  refine Calls.mono (innSB y.src x.src false H2.out _) ?_
  rintro e w3 ⟨rfl, b3⟩
  have B3 := Lib.hid (bthen B2.out b3)
  clear b3 cq1 cq2 cq3 cq4 cq5 cq6 cs1 cs2 cs3 cs4 cs5 cs6
  go_wp2
  go_ret
  exact ⟨rfl, B3.out⟩

set_option maxHeartbeats 4000000 in
theorem ruleCovS_3 (x y : Ru) (w : World) (h0 : x.ok = true) (h1 : y.ok = true) (h2 : y.src.inn x.src = true) (h3 : y.dst.inn x.dst = false) : Calls Try.prog 104 #[.agg #[.int .i64 x.prio, .int .i64 x.src.base.k, .int .i64 x.src.base.a, .int .i64 x.src.base.b, .int .i64 x.src.base.c, .int .i64 x.src.base.d, .int .i64 x.src.len, .int .i64 x.dst.base.k, .int .i64 x.dst.base.a, .int .i64 x.dst.base.b, .int .i64 x.dst.base.c, .int .i64 x.dst.base.d, .int .i64 x.dst.len, .int .i64 x.proto, .int .i64 x.slo, .int .i64 x.shi, .int .i64 x.dlo, .int .i64 x.dhi, .int .i64 x.tenant, .int .i64 x.weight, .int .i64 x.chain], .agg #[.int .i64 y.prio, .int .i64 y.src.base.k, .int .i64 y.src.base.a, .int .i64 y.src.base.b, .int .i64 y.src.base.c, .int .i64 y.src.base.d, .int .i64 y.src.len, .int .i64 y.dst.base.k, .int .i64 y.dst.base.a, .int .i64 y.dst.base.b, .int .i64 y.dst.base.c, .int .i64 y.dst.base.d, .int .i64 y.dst.len, .int .i64 y.proto, .int .i64 y.slo, .int .i64 y.shi, .int .i64 y.dlo, .int .i64 y.dhi, .int .i64 y.tenant, .int .i64 y.weight, .int .i64 y.chain]] w fun e w' => e = .returned (.bool false) ∧ Below w.heap.size w w' := by
  have q0 : Hid (((w.alloc (.cells #[.int .i64 x.prio, .int .i64 x.src.base.k, .int .i64 x.src.base.a, .int .i64 x.src.base.b, .int .i64 x.src.base.c, .int .i64 x.src.base.d, .int .i64 x.src.len, .int .i64 x.dst.base.k, .int .i64 x.dst.base.a, .int .i64 x.dst.base.b, .int .i64 x.dst.base.c, .int .i64 x.dst.base.d, .int .i64 x.dst.len, .int .i64 x.proto, .int .i64 x.slo, .int .i64 x.shi, .int .i64 x.dlo, .int .i64 x.dhi, .int .i64 x.tenant, .int .i64 x.weight, .int .i64 x.chain] 53)).alloc (.cells #[.int .i64 y.prio, .int .i64 y.src.base.k, .int .i64 y.src.base.a, .int .i64 y.src.base.b, .int .i64 y.src.base.c, .int .i64 y.src.base.d, .int .i64 y.src.len, .int .i64 y.dst.base.k, .int .i64 y.dst.base.a, .int .i64 y.dst.base.b, .int .i64 y.dst.base.c, .int .i64 y.dst.base.d, .int .i64 y.dst.len, .int .i64 y.proto, .int .i64 y.slo, .int .i64 y.shi, .int .i64 y.dlo, .int .i64 y.dhi, .int .i64 y.tenant, .int .i64 y.weight, .int .i64 y.chain] 53)).heap[w.heap.size]? = some (.cells #[.int .i64 x.prio, .int .i64 x.src.base.k, .int .i64 x.src.base.a, .int .i64 x.src.base.b, .int .i64 x.src.base.c, .int .i64 x.src.base.d, .int .i64 x.src.len, .int .i64 x.dst.base.k, .int .i64 x.dst.base.a, .int .i64 x.dst.base.b, .int .i64 x.dst.base.c, .int .i64 x.dst.base.d, .int .i64 x.dst.len, .int .i64 x.proto, .int .i64 x.slo, .int .i64 x.shi, .int .i64 x.dlo, .int .i64 x.dhi, .int .i64 x.tenant, .int .i64 x.weight, .int .i64 x.chain] 53 (0, 0))) := Lib.hid (by repeat (first | exact K.newAt (by first | rfl | (simp; done)) | refine K.oldAt (by first | (simp; done) | (simp; omega)) ?_))
  have s0 : Hid (((w.alloc (.cells #[.int .i64 x.prio, .int .i64 x.src.base.k, .int .i64 x.src.base.a, .int .i64 x.src.base.b, .int .i64 x.src.base.c, .int .i64 x.src.base.d, .int .i64 x.src.len, .int .i64 x.dst.base.k, .int .i64 x.dst.base.a, .int .i64 x.dst.base.b, .int .i64 x.dst.base.c, .int .i64 x.dst.base.d, .int .i64 x.dst.len, .int .i64 x.proto, .int .i64 x.slo, .int .i64 x.shi, .int .i64 x.dlo, .int .i64 x.dhi, .int .i64 x.tenant, .int .i64 x.weight, .int .i64 x.chain] 53)).alloc (.cells #[.int .i64 y.prio, .int .i64 y.src.base.k, .int .i64 y.src.base.a, .int .i64 y.src.base.b, .int .i64 y.src.base.c, .int .i64 y.src.base.d, .int .i64 y.src.len, .int .i64 y.dst.base.k, .int .i64 y.dst.base.a, .int .i64 y.dst.base.b, .int .i64 y.dst.base.c, .int .i64 y.dst.base.d, .int .i64 y.dst.len, .int .i64 y.proto, .int .i64 y.slo, .int .i64 y.shi, .int .i64 y.dlo, .int .i64 y.dhi, .int .i64 y.tenant, .int .i64 y.weight, .int .i64 y.chain] 53)).heap[w.heap.size + 1]? = some (.cells #[.int .i64 y.prio, .int .i64 y.src.base.k, .int .i64 y.src.base.a, .int .i64 y.src.base.b, .int .i64 y.src.base.c, .int .i64 y.src.base.d, .int .i64 y.src.len, .int .i64 y.dst.base.k, .int .i64 y.dst.base.a, .int .i64 y.dst.base.b, .int .i64 y.dst.base.c, .int .i64 y.dst.base.d, .int .i64 y.dst.len, .int .i64 y.proto, .int .i64 y.slo, .int .i64 y.shi, .int .i64 y.dlo, .int .i64 y.dhi, .int .i64 y.tenant, .int .i64 y.weight, .int .i64 y.chain] 53 (0, 0))) := Lib.hid (by repeat (first | exact K.newAt (by first | rfl | (simp; done)) | refine K.oldAt (by first | (simp; done) | (simp; omega)) ?_))
  have H0 := Lib.hid h0
  have H1 := Lib.hid h1
  have H2 := Lib.hid h2
  have H3 := Lib.hid h3
  clear h0 h1 h2 h3
  go_enter Try.func104, Try.ntmps104
  go_wp2_with (with_reducible refine loadR rfl _ rfl w.heap.size rfl q0.out ?_)
  refine Calls.mono (ruleOkSB x true H0.out _) ?_
  rintro e w1 ⟨rfl, b1⟩
  have B1 := Lib.hid (bthen (Joins.below_alloc2 w _ _) b1)
  have q1 := Lib.hid (K.below b1 q0.out)
  have s1 := Lib.hid (K.below b1 s0.out)
  clear b1 
  go_wp2_with (refine loadRGd _ rfl (w.heap.size + 1) rfl (by rfl) s1.out ?_)
  refine Calls.mono (ruleOkSB y true H1.out _) ?_
  rintro e w2 ⟨rfl, b2⟩
  have B2 := Lib.hid (bthen B1.out b2)
  have q2 := Lib.hid (K.below b2 q1.out)
  have s2 := Lib.hid (K.below b2 s1.out)
  have cq1 := K.cell q2.out 1 _ rfl
  have cq2 := K.cell q2.out 2 _ rfl
  have cq3 := K.cell q2.out 3 _ rfl
  have cq4 := K.cell q2.out 4 _ rfl
  have cq5 := K.cell q2.out 5 _ rfl
  have cq6 := K.cell q2.out 6 _ rfl
  have cs1 := K.cell s2.out 1 _ rfl
  have cs2 := K.cell s2.out 2 _ rfl
  have cs3 := K.cell s2.out 3 _ rfl
  have cs4 := K.cell s2.out 4 _ rfl
  have cs5 := K.cell s2.out 5 _ rfl
  have cs6 := K.cell s2.out 6 _ rfl
  clear b2 
  go_wp2_with fail
  refine Calls.mono (innSB y.src x.src true H2.out _) ?_
  rintro e w3 ⟨rfl, b3⟩
  have B3 := Lib.hid (bthen B2.out b3)
  have q3 := Lib.hid (K.below b3 q2.out)
  have s3 := Lib.hid (K.below b3 s2.out)
  have cq7 := K.cell q3.out 7 _ rfl
  have cq8 := K.cell q3.out 8 _ rfl
  have cq9 := K.cell q3.out 9 _ rfl
  have cq10 := K.cell q3.out 10 _ rfl
  have cq11 := K.cell q3.out 11 _ rfl
  have cq12 := K.cell q3.out 12 _ rfl
  have cs7 := K.cell s3.out 7 _ rfl
  have cs8 := K.cell s3.out 8 _ rfl
  have cs9 := K.cell s3.out 9 _ rfl
  have cs10 := K.cell s3.out 10 _ rfl
  have cs11 := K.cell s3.out 11 _ rfl
  have cs12 := K.cell s3.out 12 _ rfl
  clear b3 cq1 cq2 cq3 cq4 cq5 cq6 cs1 cs2 cs3 cs4 cs5 cs6
  go_wp2_with fail
  refine Calls.mono (innSB y.dst x.dst false H3.out _) ?_
  rintro e w4 ⟨rfl, b4⟩
  have B4 := Lib.hid (bthen B3.out b4)
  clear b4 cq7 cq8 cq9 cq10 cq11 cq12 cs7 cs8 cs9 cs10 cs11 cs12
  go_wp2
  go_ret
  exact ⟨rfl, B4.out⟩

set_option maxHeartbeats 4000000 in
theorem ruleCovS_4 (x y : Ru) (w : World) (h0 : x.ok = true) (h1 : y.ok = true) (h2 : y.src.inn x.src = true) (h3 : y.dst.inn x.dst = true) : Calls Try.prog 104 #[.agg #[.int .i64 x.prio, .int .i64 x.src.base.k, .int .i64 x.src.base.a, .int .i64 x.src.base.b, .int .i64 x.src.base.c, .int .i64 x.src.base.d, .int .i64 x.src.len, .int .i64 x.dst.base.k, .int .i64 x.dst.base.a, .int .i64 x.dst.base.b, .int .i64 x.dst.base.c, .int .i64 x.dst.base.d, .int .i64 x.dst.len, .int .i64 x.proto, .int .i64 x.slo, .int .i64 x.shi, .int .i64 x.dlo, .int .i64 x.dhi, .int .i64 x.tenant, .int .i64 x.weight, .int .i64 x.chain], .agg #[.int .i64 y.prio, .int .i64 y.src.base.k, .int .i64 y.src.base.a, .int .i64 y.src.base.b, .int .i64 y.src.base.c, .int .i64 y.src.base.d, .int .i64 y.src.len, .int .i64 y.dst.base.k, .int .i64 y.dst.base.a, .int .i64 y.dst.base.b, .int .i64 y.dst.base.c, .int .i64 y.dst.base.d, .int .i64 y.dst.len, .int .i64 y.proto, .int .i64 y.slo, .int .i64 y.shi, .int .i64 y.dlo, .int .i64 y.dhi, .int .i64 y.tenant, .int .i64 y.weight, .int .i64 y.chain]] w fun e w' => e = .returned (.bool (x.covers y)) ∧ Below w.heap.size w w' := by
  have q0 : Hid (((w.alloc (.cells #[.int .i64 x.prio, .int .i64 x.src.base.k, .int .i64 x.src.base.a, .int .i64 x.src.base.b, .int .i64 x.src.base.c, .int .i64 x.src.base.d, .int .i64 x.src.len, .int .i64 x.dst.base.k, .int .i64 x.dst.base.a, .int .i64 x.dst.base.b, .int .i64 x.dst.base.c, .int .i64 x.dst.base.d, .int .i64 x.dst.len, .int .i64 x.proto, .int .i64 x.slo, .int .i64 x.shi, .int .i64 x.dlo, .int .i64 x.dhi, .int .i64 x.tenant, .int .i64 x.weight, .int .i64 x.chain] 53)).alloc (.cells #[.int .i64 y.prio, .int .i64 y.src.base.k, .int .i64 y.src.base.a, .int .i64 y.src.base.b, .int .i64 y.src.base.c, .int .i64 y.src.base.d, .int .i64 y.src.len, .int .i64 y.dst.base.k, .int .i64 y.dst.base.a, .int .i64 y.dst.base.b, .int .i64 y.dst.base.c, .int .i64 y.dst.base.d, .int .i64 y.dst.len, .int .i64 y.proto, .int .i64 y.slo, .int .i64 y.shi, .int .i64 y.dlo, .int .i64 y.dhi, .int .i64 y.tenant, .int .i64 y.weight, .int .i64 y.chain] 53)).heap[w.heap.size]? = some (.cells #[.int .i64 x.prio, .int .i64 x.src.base.k, .int .i64 x.src.base.a, .int .i64 x.src.base.b, .int .i64 x.src.base.c, .int .i64 x.src.base.d, .int .i64 x.src.len, .int .i64 x.dst.base.k, .int .i64 x.dst.base.a, .int .i64 x.dst.base.b, .int .i64 x.dst.base.c, .int .i64 x.dst.base.d, .int .i64 x.dst.len, .int .i64 x.proto, .int .i64 x.slo, .int .i64 x.shi, .int .i64 x.dlo, .int .i64 x.dhi, .int .i64 x.tenant, .int .i64 x.weight, .int .i64 x.chain] 53 (0, 0))) := Lib.hid (by repeat (first | exact K.newAt (by first | rfl | (simp; done)) | refine K.oldAt (by first | (simp; done) | (simp; omega)) ?_))
  have s0 : Hid (((w.alloc (.cells #[.int .i64 x.prio, .int .i64 x.src.base.k, .int .i64 x.src.base.a, .int .i64 x.src.base.b, .int .i64 x.src.base.c, .int .i64 x.src.base.d, .int .i64 x.src.len, .int .i64 x.dst.base.k, .int .i64 x.dst.base.a, .int .i64 x.dst.base.b, .int .i64 x.dst.base.c, .int .i64 x.dst.base.d, .int .i64 x.dst.len, .int .i64 x.proto, .int .i64 x.slo, .int .i64 x.shi, .int .i64 x.dlo, .int .i64 x.dhi, .int .i64 x.tenant, .int .i64 x.weight, .int .i64 x.chain] 53)).alloc (.cells #[.int .i64 y.prio, .int .i64 y.src.base.k, .int .i64 y.src.base.a, .int .i64 y.src.base.b, .int .i64 y.src.base.c, .int .i64 y.src.base.d, .int .i64 y.src.len, .int .i64 y.dst.base.k, .int .i64 y.dst.base.a, .int .i64 y.dst.base.b, .int .i64 y.dst.base.c, .int .i64 y.dst.base.d, .int .i64 y.dst.len, .int .i64 y.proto, .int .i64 y.slo, .int .i64 y.shi, .int .i64 y.dlo, .int .i64 y.dhi, .int .i64 y.tenant, .int .i64 y.weight, .int .i64 y.chain] 53)).heap[w.heap.size + 1]? = some (.cells #[.int .i64 y.prio, .int .i64 y.src.base.k, .int .i64 y.src.base.a, .int .i64 y.src.base.b, .int .i64 y.src.base.c, .int .i64 y.src.base.d, .int .i64 y.src.len, .int .i64 y.dst.base.k, .int .i64 y.dst.base.a, .int .i64 y.dst.base.b, .int .i64 y.dst.base.c, .int .i64 y.dst.base.d, .int .i64 y.dst.len, .int .i64 y.proto, .int .i64 y.slo, .int .i64 y.shi, .int .i64 y.dlo, .int .i64 y.dhi, .int .i64 y.tenant, .int .i64 y.weight, .int .i64 y.chain] 53 (0, 0))) := Lib.hid (by repeat (first | exact K.newAt (by first | rfl | (simp; done)) | refine K.oldAt (by first | (simp; done) | (simp; omega)) ?_))
  have HE := Lib.hid (covEnd h0 h1 h2 h3)
  have H0 := Lib.hid h0
  have H1 := Lib.hid h1
  have H2 := Lib.hid h2
  have H3 := Lib.hid h3
  clear h0 h1 h2 h3
  go_enter Try.func104, Try.ntmps104
  go_wp2_with (with_reducible refine loadR rfl _ rfl w.heap.size rfl q0.out ?_)
  refine Calls.mono (ruleOkSB x true H0.out _) ?_
  rintro e w1 ⟨rfl, b1⟩
  have B1 := Lib.hid (bthen (Joins.below_alloc2 w _ _) b1)
  have q1 := Lib.hid (K.below b1 q0.out)
  have s1 := Lib.hid (K.below b1 s0.out)
  clear b1 
  go_wp2_with (refine loadRGd _ rfl (w.heap.size + 1) rfl (by rfl) s1.out ?_)
  refine Calls.mono (ruleOkSB y true H1.out _) ?_
  rintro e w2 ⟨rfl, b2⟩
  have B2 := Lib.hid (bthen B1.out b2)
  have q2 := Lib.hid (K.below b2 q1.out)
  have s2 := Lib.hid (K.below b2 s1.out)
  have cq1 := K.cell q2.out 1 _ rfl
  have cq2 := K.cell q2.out 2 _ rfl
  have cq3 := K.cell q2.out 3 _ rfl
  have cq4 := K.cell q2.out 4 _ rfl
  have cq5 := K.cell q2.out 5 _ rfl
  have cq6 := K.cell q2.out 6 _ rfl
  have cs1 := K.cell s2.out 1 _ rfl
  have cs2 := K.cell s2.out 2 _ rfl
  have cs3 := K.cell s2.out 3 _ rfl
  have cs4 := K.cell s2.out 4 _ rfl
  have cs5 := K.cell s2.out 5 _ rfl
  have cs6 := K.cell s2.out 6 _ rfl
  clear b2 
  go_wp2_with fail
  refine Calls.mono (innSB y.src x.src true H2.out _) ?_
  rintro e w3 ⟨rfl, b3⟩
  have B3 := Lib.hid (bthen B2.out b3)
  have q3 := Lib.hid (K.below b3 q2.out)
  have s3 := Lib.hid (K.below b3 s2.out)
  have cq7 := K.cell q3.out 7 _ rfl
  have cq8 := K.cell q3.out 8 _ rfl
  have cq9 := K.cell q3.out 9 _ rfl
  have cq10 := K.cell q3.out 10 _ rfl
  have cq11 := K.cell q3.out 11 _ rfl
  have cq12 := K.cell q3.out 12 _ rfl
  have cs7 := K.cell s3.out 7 _ rfl
  have cs8 := K.cell s3.out 8 _ rfl
  have cs9 := K.cell s3.out 9 _ rfl
  have cs10 := K.cell s3.out 10 _ rfl
  have cs11 := K.cell s3.out 11 _ rfl
  have cs12 := K.cell s3.out 12 _ rfl
  clear b3 cq1 cq2 cq3 cq4 cq5 cq6 cs1 cs2 cs3 cs4 cs5 cs6
  go_wp2_with fail
  refine Calls.mono (innSB y.dst x.dst true H3.out _) ?_
  rintro e w4 ⟨rfl, b4⟩
  have B4 := Lib.hid (bthen B3.out b4)
  have q4 := Lib.hid (K.below b4 q3.out)
  have s4 := Lib.hid (K.below b4 s3.out)
  have cq13 := K.cell q4.out 13 _ rfl
  have cq14 := K.cell q4.out 14 _ rfl
  have cq15 := K.cell q4.out 15 _ rfl
  have cq16 := K.cell q4.out 16 _ rfl
  have cq17 := K.cell q4.out 17 _ rfl
  have cs13 := K.cell s4.out 13 _ rfl
  have cs14 := K.cell s4.out 14 _ rfl
  have cs15 := K.cell s4.out 15 _ rfl
  have cs16 := K.cell s4.out 16 _ rfl
  have cs17 := K.cell s4.out 17 _ rfl
  clear b4 cq7 cq8 cq9 cq10 cq11 cq12 cs7 cs8 cs9 cs10 cs11 cs12
  go_wp2
  all_goals (go_ret; exact ⟨ret_bool (HE.out.symm ▸ (by first | (simp [*]; done) | (simp; omega) | (try simp only [bne_iff_ne, ne_eq, bne_eq_false_iff_eq] at *; first | (simp [*]; done) | (simp; omega) | (simp [*]; omega)))), B4.out⟩)

theorem ruleCovS (x y : Ru) (w : World) : Calls Try.prog 104 #[.agg #[.int .i64 x.prio, .int .i64 x.src.base.k, .int .i64 x.src.base.a, .int .i64 x.src.base.b, .int .i64 x.src.base.c, .int .i64 x.src.base.d, .int .i64 x.src.len, .int .i64 x.dst.base.k, .int .i64 x.dst.base.a, .int .i64 x.dst.base.b, .int .i64 x.dst.base.c, .int .i64 x.dst.base.d, .int .i64 x.dst.len, .int .i64 x.proto, .int .i64 x.slo, .int .i64 x.shi, .int .i64 x.dlo, .int .i64 x.dhi, .int .i64 x.tenant, .int .i64 x.weight, .int .i64 x.chain], .agg #[.int .i64 y.prio, .int .i64 y.src.base.k, .int .i64 y.src.base.a, .int .i64 y.src.base.b, .int .i64 y.src.base.c, .int .i64 y.src.base.d, .int .i64 y.src.len, .int .i64 y.dst.base.k, .int .i64 y.dst.base.a, .int .i64 y.dst.base.b, .int .i64 y.dst.base.c, .int .i64 y.dst.base.d, .int .i64 y.dst.len, .int .i64 y.proto, .int .i64 y.slo, .int .i64 y.shi, .int .i64 y.dlo, .int .i64 y.dhi, .int .i64 y.tenant, .int .i64 y.weight, .int .i64 y.chain]] w fun e w' => e = .returned (.bool (x.covers y)) ∧ Below w.heap.size w w' := by
  cases h0 : x.ok with
  | false =>
    have e : (x.covers y) = false := by simp [Ru.covers, h0]
    rw [e]
    exact ruleCovS_0 x y w  h0
  | true =>
    cases h1 : y.ok with
    | false =>
      have e : (x.covers y) = false := by simp [Ru.covers, h1]
      rw [e]
      exact ruleCovS_1 x y w h0 h1
    | true =>
      cases h2 : y.src.inn x.src with
      | false =>
        have e : (x.covers y) = false := by simp [Ru.covers, h2]
        rw [e]
        exact ruleCovS_2 x y w h0 h1 h2
      | true =>
        cases h3 : y.dst.inn x.dst with
        | false =>
          have e : (x.covers y) = false := by simp [Ru.covers, h3]
          rw [e]
          exact ruleCovS_3 x y w h0 h1 h2 h3
        | true =>
          exact ruleCovS_4 x y w h0 h1 h2 h3

theorem ruleCovSB (x y : Ru) (b : Bool) (h : x.covers y = b) (w : World) : Calls Try.prog 104 #[.agg #[.int .i64 x.prio, .int .i64 x.src.base.k, .int .i64 x.src.base.a, .int .i64 x.src.base.b, .int .i64 x.src.base.c, .int .i64 x.src.base.d, .int .i64 x.src.len, .int .i64 x.dst.base.k, .int .i64 x.dst.base.a, .int .i64 x.dst.base.b, .int .i64 x.dst.base.c, .int .i64 x.dst.base.d, .int .i64 x.dst.len, .int .i64 x.proto, .int .i64 x.slo, .int .i64 x.shi, .int .i64 x.dlo, .int .i64 x.dhi, .int .i64 x.tenant, .int .i64 x.weight, .int .i64 x.chain], .agg #[.int .i64 y.prio, .int .i64 y.src.base.k, .int .i64 y.src.base.a, .int .i64 y.src.base.b, .int .i64 y.src.base.c, .int .i64 y.src.base.d, .int .i64 y.src.len, .int .i64 y.dst.base.k, .int .i64 y.dst.base.a, .int .i64 y.dst.base.b, .int .i64 y.dst.base.c, .int .i64 y.dst.base.d, .int .i64 y.dst.len, .int .i64 y.proto, .int .i64 y.slo, .int .i64 y.shi, .int .i64 y.dlo, .int .i64 y.dhi, .int .i64 y.tenant, .int .i64 y.weight, .int .i64 y.chain]] w fun e w' => e = .returned (.bool b) ∧ Below w.heap.size w w' := h ▸ ruleCovS x y w
end Go.Proofs.Ytdndanbalmoklaa

namespace Go.Proofs.Ytdndanbalmoklaa
set_option maxRecDepth 100000
open Go.RowKit


section
variable {o : Oper} {a : Act} {w : World} {K : Act → World → Prop} {Q : Exit → Act → World → Prop}
theorem s_mv (x : Operand) (v : Value) (ho : o.op = .move x) (hx : a.eval x = v) (hK : K (a.put o.dst v) w) : o.wp Try.prog a w K Q := by
  unfold Oper.wp execOp
  simp only [ho, hx]
  go_simp
  exact hK
theorem s_pk (x y : Operand) (t : Nat) (b : Bool) (v : Value) (ho : o.op = .pick (.tmp t) x y) (hc : a.eval (.tmp t) = .bool b) (hv : (if b then a.eval x else a.eval y) = v) (hK : K (a.put o.dst v) w) : o.wp Try.prog a w K Q := by
  cases b with
  | false =>
    have hw : a.eval y = v := hv
    unfold Oper.wp execOp
    simp only [ho, hc, hw]
    go_simp
    exact hK
  | true =>
    have hw : a.eval x = v := hv
    unfold Oper.wp execOp
    simp only [ho, hc, hw]
    go_simp
    exact hK
theorem s_ix (x y : Operand) (g of n c k : Nat) (ho : o.op = .indexAddr 61 x y) (hx : a.eval x = .slice (some ⟨g, of, none⟩) n c) (hy : a.eval y = .int .i64 (k : Int)) (hk : k < n) (hK : K (a.put o.dst (.pointer (some ⟨g, of + k * 21, none⟩))) w) : o.wp Try.prog a w K Q := by
  unfold Oper.wp execOp
  simp only [ho, hx, hy]
  go_simp
  exact hK
theorem s_ld (x : Operand) (g of : Nat) (r : Ru) (ho : o.op = .load 53 x) (hx : a.eval x = .pointer (some ⟨g, of, none⟩)) (hc : w.rangeAt g of r.cells) (hK : K (a.put o.dst (.agg #[.int .i64 r.prio, .int .i64 r.src.base.k, .int .i64 r.src.base.a, .int .i64 r.src.base.b, .int .i64 r.src.base.c, .int .i64 r.src.base.d, .int .i64 r.src.len, .int .i64 r.dst.base.k, .int .i64 r.dst.base.a, .int .i64 r.dst.base.b, .int .i64 r.dst.base.c, .int .i64 r.dst.base.d, .int .i64 r.dst.len, .int .i64 r.proto, .int .i64 r.slo, .int .i64 r.shi, .int .i64 r.dlo, .int .i64 r.dhi, .int .i64 r.tenant, .int .i64 r.weight, .int .i64 r.chain])) w) : o.wp Try.prog a w K Q :=
  wp_load_mid 53 x ho g of hx r.cells _ hc Try.underlying53 rfl info_rule hK
theorem s_not (x : Operand) (ty : TypeId) (b : Bool) (ho : o.op = .unOp .not ty x) (hx : a.eval x = .bool b) (hK : K (a.put o.dst (.bool (!b))) w) : o.wp Try.prog a w K Q := by
  unfold Oper.wp execOp
  simp only [ho, hx]
  go_simp
  exact hK
theorem s_gt0 (x : Operand) (k : Nat) (b : Bool) (ho : o.op = .binOp .gtr 3 x (.const (.int .i64 0)) 3) (hx : a.eval x = .int .i64 (k : Int)) (h : decide (0 < k) = b) (hK : K (a.put o.dst (.bool b)) w) : o.wp Try.prog a w K Q := by
  subst h
  unfold Oper.wp execOp
  simp only [ho, hx]
  go_simp
  exact hK
theorem s_sub1 (x : Operand) (k m : Nat) (ho : o.op = .binOp .sub 3 x (.const (.int .i64 1)) 3) (hx : a.eval x = .int .i64 (k : Int)) (h : k = m + 1 ∧ k ≤ 1048576) (hK : K (a.put o.dst (.int .i64 (m : Int))) w) : o.wp Try.prog a w K Q := by
  obtain ⟨rfl, h2⟩ := h
  unfold Oper.wp execOp
  simp only [ho, hx]
  go_simp
  rw [show IntKind.i64.wrap (m : Int) = (m : Int) by rw [IntKind.wrap_i64]; omega]
  exact hK
theorem s_f0 (x : Operand) (g of : Nat) (ho : o.op = .fieldAddr 53 x 0) (hx : a.eval x = .pointer (some ⟨g, of, none⟩)) (hK : K (a.put o.dst (.pointer (some ⟨g, of, none⟩))) w) : o.wp Try.prog a w K Q := by
  unfold Oper.wp execOp
  simp only [ho, hx]
  go_simp
  exact hK
theorem s_in (x : Operand) (g j : Nat) (v : Value) (ho : o.op = .load 3 x) (hx : a.eval x = .pointer (some ⟨g, j, none⟩)) (hc : w.cell? ⟨g, j, none⟩ = some v) (hK : K (a.put o.dst v) w) : o.wp Try.prog a w K Q := by
  unfold Oper.wp execOp
  simp only [ho, hx]
  go_simp
  exact hK
theorem s_ge (x y : Operand) (m n : Int) (b : Bool) (ho : o.op = .binOp .geq 3 x y 3) (hx : a.eval x = .int .i64 m) (hy : a.eval y = .int .i64 n) (h : decide (n ≤ m) = b) (hK : K (a.put o.dst (.bool b)) w) : o.wp Try.prog a w K Q := by
  subst h
  unfold Oper.wp execOp
  simp only [ho, hx, hy]
  go_simp
  exact hK
theorem u_okRS (x : Operand) (x0 : Value) (ts : Array TypeId) (ho : o.op = .call { callee := .value (.func 95), args := #[x], argTypes := ts }) (h0 : a.eval x = x0)
    (h : Calls Try.prog 95 #[x0] w fun e w' => ∃ v, e = .returned v ∧ K (a.put o.dst v) w') : o.wp Try.prog a w K Q := by
  unfold Oper.wp execOp
  simp only [ho, resolve, List.map_toArray, List.map_cons, List.map_nil, h0, show ∀ f, a.eval (.func f) = .func (.func f) #[] #[] from fun _ => rfl]
  go_simp
  exact h.mono fun e w' ⟨u, he, hk⟩ => by subst he; exact hk
end

set_option maxHeartbeats 2000000 in
theorem rulesOkS (A : Option Addr) (n c : Nat) (rs : List Ru) (w : World) (hx : RV w w.heap.size A (rcells rs)) (hl : rs.length = n) (hn : n ≤ 1048576) :
    Calls Try.prog 97 #[.slice A n c] w fun e w' => e = .returned (.bool (rulesOk rs)) ∧ Below w.heap.size w w' := by
  by_cases h32 : (32 : Int) < n
  · have HR := Lib.hid (rulesOk_long (rs := rs) (by omega))
    clear hx hl
    go_enter Try.func97, Try.ntmps97
    go_wp2
    go_ret
    exact ⟨ret_bool HR.out.symm, by go_grown⟩
  · have HX := Lib.hid hx
    have HL := Lib.hid hl
    have h33 : n ≤ 32 := by omega
    clear hx hl
    go_enter Try.func97, Try.ntmps97
    go_wp2
    go_loopw [3] (fun i wr => ∃ k : Nat, k ≤ n ∧ i = .int .i64 k ∧ Hid (goodN rs k = true) ∧ Hid (Below w.heap.size w wr)) (fun i _ => n - (intOf i).toNat)
    case atStart => exact ⟨0, Nat.zero_le _, rfl, Lib.hid rfl, Lib.hid (Below.refl _ _)⟩
    case round =>
      obtain ⟨k, hk, rfl, hg, hb⟩ := hrel
      by_cases hlt : k < n
      · have hk1 : k < rs.length := by rw [HL.out]; exact hlt
        obtain ⟨g, o, rfl, hgl, hc0⟩ := HX.out.rule hk1
        have hc := Lib.hid (fun (v : World) (hv : Below wr.heap.size wr v) => (show v.rangeAt g (o + k * 21) rs[k].cells from fun j u hu => ((bthen hb.out hv).cell (p := ⟨g, o + k * 21 + j, none⟩) hgl).trans (hc0 j u hu)))
        have HNo := Lib.hid (rulesOk_bad hk1)
        have HS := Lib.hid (goodN_succ hk1)
        have HM := Lib.hid (fun (m : Nat) (hm : k = m + 1) => (show ∃ l : Int, lastP rs k = l ∧ ∀ v, Below wr.heap.size wr v → v.cell? ⟨g, o + m * 21, none⟩ = some (.int .i64 l) from by
          subst hm
          obtain ⟨g2, o2, e2, hg2, hc2⟩ := HX.out.rule (i := m) (by omega)
          obtain ⟨rfl, rfl⟩ : g = g2 ∧ o = o2 := by injection e2 with e2; injection e2 with e3 e4; exact ⟨e3, e4⟩
          exact ⟨rs[m].prio, lastP_succ (by omega), fun v hv => ((bthen hb.out hv).cell (p := ⟨g, o + m * 21, none⟩) hgl).trans (hc2 0 _ rfl)⟩))
        have H0 := Lib.hid (show lastP rs 0 = 0 from rfl)
        clear hc0 hgl
        generalize rs[k] = y at *
        cases hok : y.ok with
        | false =>
          have HOK := Lib.hid hok
          clear hok HM H0
          go_wp2_with fail
          refine wp_region_guards (by kernel_rfl) 23 37 [(0, 13), (1, 14), (2, 15), (3, 16), (4, 17), (5, 18), (6, 19), (7, 20), (8, 21), (9, 22), (10, 23), (11, 24), (12, 25), (13, 26), (14, 27), (15, 28), (16, 29), (17, 30), (18, 31), (19, 32), (20, 33), (21, 34), (22, 35)] _ ([.val (.slice (some ⟨g, o, none⟩) n c), .val (.int .i64 (k : Int)), .val (.pointer (some ⟨g, o + k * 21, none⟩)), .val (.agg #[.int .i64 y.prio, .int .i64 y.src.base.k, .int .i64 y.src.base.a, .int .i64 y.src.base.b, .int .i64 y.src.base.c, .int .i64 y.src.base.d, .int .i64 y.src.len, .int .i64 y.dst.base.k, .int .i64 y.dst.base.a, .int .i64 y.dst.base.b, .int .i64 y.dst.base.c, .int .i64 y.dst.base.d, .int .i64 y.dst.len, .int .i64 y.proto, .int .i64 y.slo, .int .i64 y.shi, .int .i64 y.dlo, .int .i64 y.dhi, .int .i64 y.tenant, .int .i64 y.weight, .int .i64 y.chain]), .bit false, .bit true, .bit true, .skip, .skip, .skip, .skip, .skip, .skip, .skip, .skip, .skip, .skip, .skip, .skip, .skip, .skip, .skip, .skip]) (by kernel_rfl) (by kernel_rfl) (by kernel_rfl) rfl rfl ?_ ?_
          · intro j o hj ho hr a' v K' hx hnd hB hK
            match j, hj, ho, hr with
            | 0, _, ho, _ =>
              obtain rfl := Option.some.inj ho
              have h0 : a'.eval (.tmp 0) = .slice (some ⟨g, o, none⟩) n c := (hx 0 (by decide)).trans rfl
              exact s_mv _ _ rfl h0 (hK _ _ rfl (Below.refl _ _))
            | 1, _, ho, _ =>
              obtain rfl := Option.some.inj ho
              have h0 : a'.eval (.tmp 3) = .int .i64 (k : Int) := (hx 3 (by decide)).trans rfl
              exact s_mv _ _ rfl h0 (hK _ _ rfl (Below.refl _ _))
            | 2, _, ho, _ =>
              obtain rfl := Option.some.inj ho
              have h0 : a'.eval (.tmp 13) = .slice (some ⟨g, o, none⟩) n c := (gds_of hnd 0 13 (by kernel_rfl) :)
              have h1 : a'.eval (.tmp 14) = .int .i64 (k : Int) := (gds_of hnd 1 14 (by kernel_rfl) :)
              exact s_ix _ _ _ _ _ _ _ rfl h0 h1 hlt (hK _ _ rfl (Below.refl _ _))
            | 3, _, ho, _ =>
              obtain rfl := Option.some.inj ho
              have h0 : a'.eval (.tmp 15) = .pointer (some ⟨g, o + k * 21, none⟩) := (gds_of hnd 2 15 (by kernel_rfl) :)
              exact s_ld _ _ _ y rfl h0 (hc.out _ hB) (hK _ _ rfl (Below.refl _ _))
            | 4, _, ho, _ =>
              obtain rfl := Option.some.inj ho
              have h0 : a'.eval (.tmp 16) = .agg #[.int .i64 y.prio, .int .i64 y.src.base.k, .int .i64 y.src.base.a, .int .i64 y.src.base.b, .int .i64 y.src.base.c, .int .i64 y.src.base.d, .int .i64 y.src.len, .int .i64 y.dst.base.k, .int .i64 y.dst.base.a, .int .i64 y.dst.base.b, .int .i64 y.dst.base.c, .int .i64 y.dst.base.d, .int .i64 y.dst.len, .int .i64 y.proto, .int .i64 y.slo, .int .i64 y.shi, .int .i64 y.dlo, .int .i64 y.dhi, .int .i64 y.tenant, .int .i64 y.weight, .int .i64 y.chain] := (gds_of hnd 3 16 (by kernel_rfl) :)
              refine u_okRS _ _ _ rfl h0 (Calls.mono (ruleOkSB y false HOK.out _) ?_)
              rintro e' v' ⟨rfl, b6⟩
              exact ⟨_, rfl, hK _ _ rfl b6⟩
            | 5, _, ho, _ =>
              obtain rfl := Option.some.inj ho
              have h0 : a'.eval (.tmp 17) = .bool false := (gds_of hnd 4 17 (by kernel_rfl) :)
              exact s_not _ _ false rfl h0 (hK _ _ rfl (Below.refl _ _))
            | 6, _, ho, _ =>
              obtain rfl := Option.some.inj ho
              have h0 : a'.eval (.tmp 18) = .bool true := (gds_of hnd 5 18 (by kernel_rfl) :)
              exact s_mv _ _ rfl h0 (hK _ _ rfl (Below.refl _ _))
            | 7, _, ho, hr =>
              obtain rfl := Option.some.inj ho
              exact Bool.noConfusion (show false = true from hr)
            | 8, _, ho, hr =>
              obtain rfl := Option.some.inj ho
              exact Bool.noConfusion (show false = true from hr)
            | 9, _, ho, hr =>
              obtain rfl := Option.some.inj ho
              exact Bool.noConfusion (show false = true from hr)
            | 10, _, ho, hr =>
              obtain rfl := Option.some.inj ho
              exact Bool.noConfusion (show false = true from hr)
            | 11, _, ho, hr =>
              obtain rfl := Option.some.inj ho
              exact Bool.noConfusion (show false = true from hr)
            | 12, _, ho, hr =>
              obtain rfl := Option.some.inj ho
              exact Bool.noConfusion (show false = true from hr)
            | 13, _, ho, hr =>
              obtain rfl := Option.some.inj ho
              exact Bool.noConfusion (show false = true from hr)
            | 14, _, ho, hr =>
              obtain rfl := Option.some.inj ho
              exact Bool.noConfusion (show false = true from hr)
            | 15, _, ho, hr =>
              obtain rfl := Option.some.inj ho
              exact Bool.noConfusion (show false = true from hr)
            | 16, _, ho, hr =>
              obtain rfl := Option.some.inj ho
              exact Bool.noConfusion (show false = true from hr)
            | 17, _, ho, hr =>
              obtain rfl := Option.some.inj ho
              exact Bool.noConfusion (show false = true from hr)
            | 18, _, ho, hr =>
              obtain rfl := Option.some.inj ho
              exact Bool.noConfusion (show false = true from hr)
            | 19, _, ho, hr =>
              obtain rfl := Option.some.inj ho
              exact Bool.noConfusion (show false = true from hr)
            | 20, _, ho, hr =>
              obtain rfl := Option.some.inj ho
              exact Bool.noConfusion (show false = true from hr)
            | 21, _, ho, hr =>
              obtain rfl := Option.some.inj ho
              exact Bool.noConfusion (show false = true from hr)
            | 22, _, ho, hr =>
              obtain rfl := Option.some.inj ho
              exact Bool.noConfusion (show false = true from hr)
            | j + 23, hj, _, _ => omega
          · intro f v hf hB
            have e0 : f 0 = (.slice (some ⟨g, o, none⟩) n c) := hf (0, 13) (by decide)
            have e1 : f 1 = (.int .i64 (k : Int)) := hf (1, 14) (by decide)
            have e2 : f 2 = (.pointer (some ⟨g, o + k * 21, none⟩)) := hf (2, 15) (by decide)
            have e3 : f 3 = (.agg #[.int .i64 y.prio, .int .i64 y.src.base.k, .int .i64 y.src.base.a, .int .i64 y.src.base.b, .int .i64 y.src.base.c, .int .i64 y.src.base.d, .int .i64 y.src.len, .int .i64 y.dst.base.k, .int .i64 y.dst.base.a, .int .i64 y.dst.base.b, .int .i64 y.dst.base.c, .int .i64 y.dst.base.d, .int .i64 y.dst.len, .int .i64 y.proto, .int .i64 y.slo, .int .i64 y.shi, .int .i64 y.dlo, .int .i64 y.dhi, .int .i64 y.tenant, .int .i64 y.weight, .int .i64 y.chain]) := hf (3, 16) (by decide)
            have e4 : f 4 = (.bool false) := hf (4, 17) (by decide)
            have e5 : f 5 = (.bool true) := hf (5, 18) (by decide)
            have e6 : f 6 = (.bool true) := hf (6, 19) (by decide)
            have e7 : f 7 = undef := hf (7, 20) (by decide)
            have e8 : f 8 = undef := hf (8, 21) (by decide)
            have e9 : f 9 = undef := hf (9, 22) (by decide)
            have e10 : f 10 = undef := hf (10, 23) (by decide)
            have e11 : f 11 = undef := hf (11, 24) (by decide)
            have e12 : f 12 = undef := hf (12, 25) (by decide)
            have e13 : f 13 = undef := hf (13, 26) (by decide)
            have e14 : f 14 = undef := hf (14, 27) (by decide)
            have e15 : f 15 = undef := hf (15, 28) (by decide)
            have e16 : f 16 = undef := hf (16, 29) (by decide)
            have e17 : f 17 = undef := hf (17, 30) (by decide)
            have e18 : f 18 = undef := hf (18, 31) (by decide)
            have e19 : f 19 = undef := hf (19, 32) (by decide)
            have e20 : f 20 = undef := hf (20, 33) (by decide)
            have e21 : f 21 = undef := hf (21, 34) (by decide)
            have e22 : f 22 = undef := hf (22, 35) (by decide)
            simp only [List.foldl_cons, List.foldl_nil, List.drop_succ_cons, List.drop_zero, e0, e1, e2, e3, e4, e5, e6, e7, e8, e9, e10, e11, e12, e13, e14, e15, e16, e17, e18, e19, e20, e21, e22]
            clear e0 e1 e2 e3 e4 e5 e6 e7 e8 e9 e10 e11 e12 e13 e14 e15 e16 e17 e18 e19 e20 e21 e22 hf
            go_simp
            have B2 := Lib.hid (bthen hb.out hB)
            clear hB
            go_wp2
            first | go_ret | go_ret3
            exact ⟨ret_bool (HNo.out (by rw [HOK.out]; rfl)).symm, B2.out⟩
        | true =>
          have HOK := Lib.hid hok
          have HPR := Lib.hid (Ru.prio_pos hok)
          clear hok
          cases k with
          | zero =>
            have hk0 : decide (0 < (0 : Nat)) = false := rfl
            clear HM
            go_wp2_with fail
            refine wp_region_guards (by kernel_rfl) 23 37 [(0, 13), (1, 14), (2, 15), (3, 16), (4, 17), (5, 18), (6, 19), (7, 20), (8, 21), (9, 22), (10, 23), (11, 24), (12, 25), (13, 26), (14, 27), (15, 28), (16, 29), (17, 30), (18, 31), (19, 32), (20, 33), (21, 34), (22, 35)] _ ([.val (.slice (some ⟨g, o, none⟩) n c), .val (.int .i64 ((0 : Nat) : Int)), .val (.pointer (some ⟨g, o + (0 : Nat) * 21, none⟩)), .val (.agg #[.int .i64 y.prio, .int .i64 y.src.base.k, .int .i64 y.src.base.a, .int .i64 y.src.base.b, .int .i64 y.src.base.c, .int .i64 y.src.base.d, .int .i64 y.src.len, .int .i64 y.dst.base.k, .int .i64 y.dst.base.a, .int .i64 y.dst.base.b, .int .i64 y.dst.base.c, .int .i64 y.dst.base.d, .int .i64 y.dst.len, .int .i64 y.proto, .int .i64 y.slo, .int .i64 y.shi, .int .i64 y.dlo, .int .i64 y.dhi, .int .i64 y.tenant, .int .i64 y.weight, .int .i64 y.chain]), .bit true, .bit false, .bit false, .val (.int .i64 ((0 : Nat) : Int)), .bit false, .bit false, .skip, .skip, .skip, .skip, .skip, .skip, .skip, .skip, .skip, .skip, .skip, .skip, .val (.bool false)]) (by kernel_rfl) (by kernel_rfl) (by kernel_rfl) rfl rfl ?_ ?_
            · intro j o hj ho hr a' v K' hx hnd hB hK
              match j, hj, ho, hr with
              | 0, _, ho, _ =>
                obtain rfl := Option.some.inj ho
                have h0 : a'.eval (.tmp 0) = .slice (some ⟨g, o, none⟩) n c := (hx 0 (by decide)).trans rfl
                exact s_mv _ _ rfl h0 (hK _ _ rfl (Below.refl _ _))
              | 1, _, ho, _ =>
                obtain rfl := Option.some.inj ho
                have h0 : a'.eval (.tmp 3) = .int .i64 ((0 : Nat) : Int) := (hx 3 (by decide)).trans rfl
                exact s_mv _ _ rfl h0 (hK _ _ rfl (Below.refl _ _))
              | 2, _, ho, _ =>
                obtain rfl := Option.some.inj ho
                have h0 : a'.eval (.tmp 13) = .slice (some ⟨g, o, none⟩) n c := (gds_of hnd 0 13 (by kernel_rfl) :)
                have h1 : a'.eval (.tmp 14) = .int .i64 ((0 : Nat) : Int) := (gds_of hnd 1 14 (by kernel_rfl) :)
                exact s_ix _ _ _ _ _ _ _ rfl h0 h1 hlt (hK _ _ rfl (Below.refl _ _))
              | 3, _, ho, _ =>
                obtain rfl := Option.some.inj ho
                have h0 : a'.eval (.tmp 15) = .pointer (some ⟨g, o + (0 : Nat) * 21, none⟩) := (gds_of hnd 2 15 (by kernel_rfl) :)
                exact s_ld _ _ _ y rfl h0 (hc.out _ hB) (hK _ _ rfl (Below.refl _ _))
              | 4, _, ho, _ =>
                obtain rfl := Option.some.inj ho
                have h0 : a'.eval (.tmp 16) = .agg #[.int .i64 y.prio, .int .i64 y.src.base.k, .int .i64 y.src.base.a, .int .i64 y.src.base.b, .int .i64 y.src.base.c, .int .i64 y.src.base.d, .int .i64 y.src.len, .int .i64 y.dst.base.k, .int .i64 y.dst.base.a, .int .i64 y.dst.base.b, .int .i64 y.dst.base.c, .int .i64 y.dst.base.d, .int .i64 y.dst.len, .int .i64 y.proto, .int .i64 y.slo, .int .i64 y.shi, .int .i64 y.dlo, .int .i64 y.dhi, .int .i64 y.tenant, .int .i64 y.weight, .int .i64 y.chain] := (gds_of hnd 3 16 (by kernel_rfl) :)
                refine u_okRS _ _ _ rfl h0 (Calls.mono (ruleOkSB y true HOK.out _) ?_)
                rintro e' v' ⟨rfl, b6⟩
                exact ⟨_, rfl, hK _ _ rfl b6⟩
              | 5, _, ho, _ =>
                obtain rfl := Option.some.inj ho
                have h0 : a'.eval (.tmp 17) = .bool true := (gds_of hnd 4 17 (by kernel_rfl) :)
                exact s_not _ _ true rfl h0 (hK _ _ rfl (Below.refl _ _))
              | 6, _, ho, _ =>
                obtain rfl := Option.some.inj ho
                have h0 : a'.eval (.tmp 18) = .bool false := (gds_of hnd 5 18 (by kernel_rfl) :)
                exact s_mv _ _ rfl h0 (hK _ _ rfl (Below.refl _ _))
              | 7, _, ho, _ =>
                obtain rfl := Option.some.inj ho
                have h0 : a'.eval (.tmp 3) = .int .i64 ((0 : Nat) : Int) := (hx 3 (by decide)).trans rfl
                exact s_mv _ _ rfl h0 (hK _ _ rfl (Below.refl _ _))
              | 8, _, ho, _ =>
                obtain rfl := Option.some.inj ho
                have h0 : a'.eval (.tmp 20) = .int .i64 ((0 : Nat) : Int) := (gds_of hnd 7 20 (by kernel_rfl) :)
                exact s_gt0 _ _ false rfl h0 hk0 (hK _ _ rfl (Below.refl _ _))
              | 9, _, ho, _ =>
                obtain rfl := Option.some.inj ho
                have h0 : a'.eval (.tmp 21) = .bool false := (gds_of hnd 8 21 (by kernel_rfl) :)
                exact s_mv _ _ rfl h0 (hK _ _ rfl (Below.refl _ _))
              | 10, _, ho, hr =>
                obtain rfl := Option.some.inj ho
                exact Bool.noConfusion (show false = true from hr)
              | 11, _, ho, hr =>
                obtain rfl := Option.some.inj ho
                exact Bool.noConfusion (show false = true from hr)
              | 12, _, ho, hr =>
                obtain rfl := Option.some.inj ho
                exact Bool.noConfusion (show false = true from hr)
              | 13, _, ho, hr =>
                obtain rfl := Option.some.inj ho
                exact Bool.noConfusion (show false = true from hr)
              | 14, _, ho, hr =>
                obtain rfl := Option.some.inj ho
                exact Bool.noConfusion (show false = true from hr)
              | 15, _, ho, hr =>
                obtain rfl := Option.some.inj ho
                exact Bool.noConfusion (show false = true from hr)
              | 16, _, ho, hr =>
                obtain rfl := Option.some.inj ho
                exact Bool.noConfusion (show false = true from hr)
              | 17, _, ho, hr =>
                obtain rfl := Option.some.inj ho
                exact Bool.noConfusion (show false = true from hr)
              | 18, _, ho, hr =>
                obtain rfl := Option.some.inj ho
                exact Bool.noConfusion (show false = true from hr)
              | 19, _, ho, hr =>
                obtain rfl := Option.some.inj ho
                exact Bool.noConfusion (show false = true from hr)
              | 20, _, ho, hr =>
                obtain rfl := Option.some.inj ho
                exact Bool.noConfusion (show false = true from hr)
              | 21, _, ho, hr =>
                obtain rfl := Option.some.inj ho
                exact Bool.noConfusion (show false = true from hr)
              | 22, _, ho, _ =>
                obtain rfl := Option.some.inj ho
                have h0 : a'.eval (.tmp 22) = .bool false := (gds_of hnd 9 22 (by kernel_rfl) :)
                exact s_pk _ _ _ false _ rfl h0 rfl (hK _ _ rfl (Below.refl _ _))
              | j + 23, hj, _, _ => omega
            · intro f v hf hB
              have e0 : f 0 = (.slice (some ⟨g, o, none⟩) n c) := hf (0, 13) (by decide)
              have e1 : f 1 = (.int .i64 ((0 : Nat) : Int)) := hf (1, 14) (by decide)
              have e2 : f 2 = (.pointer (some ⟨g, o + (0 : Nat) * 21, none⟩)) := hf (2, 15) (by decide)
              have e3 : f 3 = (.agg #[.int .i64 y.prio, .int .i64 y.src.base.k, .int .i64 y.src.base.a, .int .i64 y.src.base.b, .int .i64 y.src.base.c, .int .i64 y.src.base.d, .int .i64 y.src.len, .int .i64 y.dst.base.k, .int .i64 y.dst.base.a, .int .i64 y.dst.base.b, .int .i64 y.dst.base.c, .int .i64 y.dst.base.d, .int .i64 y.dst.len, .int .i64 y.proto, .int .i64 y.slo, .int .i64 y.shi, .int .i64 y.dlo, .int .i64 y.dhi, .int .i64 y.tenant, .int .i64 y.weight, .int .i64 y.chain]) := hf (3, 16) (by decide)
              have e4 : f 4 = (.bool true) := hf (4, 17) (by decide)
              have e5 : f 5 = (.bool false) := hf (5, 18) (by decide)
              have e6 : f 6 = (.bool false) := hf (6, 19) (by decide)
              have e7 : f 7 = (.int .i64 ((0 : Nat) : Int)) := hf (7, 20) (by decide)
              have e8 : f 8 = (.bool false) := hf (8, 21) (by decide)
              have e9 : f 9 = (.bool false) := hf (9, 22) (by decide)
              have e10 : f 10 = undef := hf (10, 23) (by decide)
              have e11 : f 11 = undef := hf (11, 24) (by decide)
              have e12 : f 12 = undef := hf (12, 25) (by decide)
              have e13 : f 13 = undef := hf (13, 26) (by decide)
              have e14 : f 14 = undef := hf (14, 27) (by decide)
              have e15 : f 15 = undef := hf (15, 28) (by decide)
              have e16 : f 16 = undef := hf (16, 29) (by decide)
              have e17 : f 17 = undef := hf (17, 30) (by decide)
              have e18 : f 18 = undef := hf (18, 31) (by decide)
              have e19 : f 19 = undef := hf (19, 32) (by decide)
              have e20 : f 20 = undef := hf (20, 33) (by decide)
              have e21 : f 21 = undef := hf (21, 34) (by decide)
              have e22 : f 22 = (.bool false) := hf (22, 35) (by decide)
              simp only [List.foldl_cons, List.foldl_nil, List.drop_succ_cons, List.drop_zero, e0, e1, e2, e3, e4, e5, e6, e7, e8, e9, e10, e11, e12, e13, e14, e15, e16, e17, e18, e19, e20, e21, e22]
              clear e0 e1 e2 e3 e4 e5 e6 e7 e8 e9 e10 e11 e12 e13 e14 e15 e16 e17 e18 e19 e20 e21 e22 hf
              go_simp
              have B2 := Lib.hid (bthen hb.out hB)
              clear hB
              go_wp2
              go_roundw
              case rel => exact ⟨0 + 1, by omega, by go_num, Lib.hid (by rw [HS.out, hg.out, HOK.out, decide_eq_true (by rw [H0.out]; have := HPR.out; omega)]; rfl), B2⟩
              case measure => simp [intOf]; omega
          | succ m =>
            obtain ⟨l, hl, hd⟩ := HM.out m rfl
            have hd := Lib.hid hd
            rw [hl] at HNo HS
            have hk0 : decide (0 < m + 1) = true := decide_eq_true (by omega)
            obtain ⟨bb, hbb⟩ : ∃ bb, decide (y.prio ≤ l) = bb := ⟨_, rfl⟩
            have hbb := Lib.hid hbb
            clear HM H0 hl
            cases bb with
            | false =>
              go_wp2_with fail
              refine wp_region_guards (by kernel_rfl) 23 37 [(0, 13), (1, 14), (2, 15), (3, 16), (4, 17), (5, 18), (6, 19), (7, 20), (8, 21), (9, 22), (10, 23), (11, 24), (12, 25), (13, 26), (14, 27), (15, 28), (16, 29), (17, 30), (18, 31), (19, 32), (20, 33), (21, 34), (22, 35)] _ ([.val (.slice (some ⟨g, o, none⟩) n c), .val (.int .i64 ((m + 1 : Nat) : Int)), .val (.pointer (some ⟨g, o + ((m + 1)) * 21, none⟩)), .val (.agg #[.int .i64 y.prio, .int .i64 y.src.base.k, .int .i64 y.src.base.a, .int .i64 y.src.base.b, .int .i64 y.src.base.c, .int .i64 y.src.base.d, .int .i64 y.src.len, .int .i64 y.dst.base.k, .int .i64 y.dst.base.a, .int .i64 y.dst.base.b, .int .i64 y.dst.base.c, .int .i64 y.dst.base.d, .int .i64 y.dst.len, .int .i64 y.proto, .int .i64 y.slo, .int .i64 y.shi, .int .i64 y.dlo, .int .i64 y.dhi, .int .i64 y.tenant, .int .i64 y.weight, .int .i64 y.chain]), .bit true, .bit false, .bit false, .val (.int .i64 ((m + 1 : Nat) : Int)), .bit true, .bit true, .val (.slice (some ⟨g, o, none⟩) n c), .val (.int .i64 ((m + 1 : Nat) : Int)), .val (.int .i64 (m : Int)), .val (.pointer (some ⟨g, o + m * 21, none⟩)), .val (.pointer (some ⟨g, o + m * 21, none⟩)), .val (.int .i64 l), .val (.slice (some ⟨g, o, none⟩) n c), .val (.int .i64 ((m + 1 : Nat) : Int)), .val (.pointer (some ⟨g, o + ((m + 1)) * 21, none⟩)), .val (.pointer (some ⟨g, o + ((m + 1)) * 21, none⟩)), .val (.int .i64 y.prio), .val (.bool false), .val (.bool false)]) (by kernel_rfl) (by kernel_rfl) (by kernel_rfl) rfl rfl ?_ ?_
              · intro j o hj ho hr a' v K' hx hnd hB hK
                match j, hj, ho, hr with
                | 0, _, ho, _ =>
                  obtain rfl := Option.some.inj ho
                  have h0 : a'.eval (.tmp 0) = .slice (some ⟨g, o, none⟩) n c := (hx 0 (by decide)).trans rfl
                  exact s_mv _ _ rfl h0 (hK _ _ rfl (Below.refl _ _))
                | 1, _, ho, _ =>
                  obtain rfl := Option.some.inj ho
                  have h0 : a'.eval (.tmp 3) = .int .i64 ((m + 1 : Nat) : Int) := (hx 3 (by decide)).trans rfl
                  exact s_mv _ _ rfl h0 (hK _ _ rfl (Below.refl _ _))
                | 2, _, ho, _ =>
                  obtain rfl := Option.some.inj ho
                  have h0 : a'.eval (.tmp 13) = .slice (some ⟨g, o, none⟩) n c := (gds_of hnd 0 13 (by kernel_rfl) :)
                  have h1 : a'.eval (.tmp 14) = .int .i64 ((m + 1 : Nat) : Int) := (gds_of hnd 1 14 (by kernel_rfl) :)
                  exact s_ix _ _ _ _ _ _ _ rfl h0 h1 hlt (hK _ _ rfl (Below.refl _ _))
                | 3, _, ho, _ =>
                  obtain rfl := Option.some.inj ho
                  have h0 : a'.eval (.tmp 15) = .pointer (some ⟨g, o + ((m + 1)) * 21, none⟩) := (gds_of hnd 2 15 (by kernel_rfl) :)
                  exact s_ld _ _ _ y rfl h0 (hc.out _ hB) (hK _ _ rfl (Below.refl _ _))
                | 4, _, ho, _ =>
                  obtain rfl := Option.some.inj ho
                  have h0 : a'.eval (.tmp 16) = .agg #[.int .i64 y.prio, .int .i64 y.src.base.k, .int .i64 y.src.base.a, .int .i64 y.src.base.b, .int .i64 y.src.base.c, .int .i64 y.src.base.d, .int .i64 y.src.len, .int .i64 y.dst.base.k, .int .i64 y.dst.base.a, .int .i64 y.dst.base.b, .int .i64 y.dst.base.c, .int .i64 y.dst.base.d, .int .i64 y.dst.len, .int .i64 y.proto, .int .i64 y.slo, .int .i64 y.shi, .int .i64 y.dlo, .int .i64 y.dhi, .int .i64 y.tenant, .int .i64 y.weight, .int .i64 y.chain] := (gds_of hnd 3 16 (by kernel_rfl) :)
                  refine u_okRS _ _ _ rfl h0 (Calls.mono (ruleOkSB y true HOK.out _) ?_)
                  rintro e' v' ⟨rfl, b6⟩
                  exact ⟨_, rfl, hK _ _ rfl b6⟩
                | 5, _, ho, _ =>
                  obtain rfl := Option.some.inj ho
                  have h0 : a'.eval (.tmp 17) = .bool true := (gds_of hnd 4 17 (by kernel_rfl) :)
                  exact s_not _ _ true rfl h0 (hK _ _ rfl (Below.refl _ _))
                | 6, _, ho, _ =>
                  obtain rfl := Option.some.inj ho
                  have h0 : a'.eval (.tmp 18) = .bool false := (gds_of hnd 5 18 (by kernel_rfl) :)
                  exact s_mv _ _ rfl h0 (hK _ _ rfl (Below.refl _ _))
                | 7, _, ho, _ =>
                  obtain rfl := Option.some.inj ho
                  have h0 : a'.eval (.tmp 3) = .int .i64 ((m + 1 : Nat) : Int) := (hx 3 (by decide)).trans rfl
                  exact s_mv _ _ rfl h0 (hK _ _ rfl (Below.refl _ _))
                | 8, _, ho, _ =>
                  obtain rfl := Option.some.inj ho
                  have h0 : a'.eval (.tmp 20) = .int .i64 ((m + 1 : Nat) : Int) := (gds_of hnd 7 20 (by kernel_rfl) :)
                  exact s_gt0 _ _ true rfl h0 hk0 (hK _ _ rfl (Below.refl _ _))
                | 9, _, ho, _ =>
                  obtain rfl := Option.some.inj ho
                  have h0 : a'.eval (.tmp 21) = .bool true := (gds_of hnd 8 21 (by kernel_rfl) :)
                  exact s_mv _ _ rfl h0 (hK _ _ rfl (Below.refl _ _))
                | 10, _, ho, _ =>
                  obtain rfl := Option.some.inj ho
                  have h0 : a'.eval (.tmp 0) = .slice (some ⟨g, o, none⟩) n c := (hx 0 (by decide)).trans rfl
                  exact s_mv _ _ rfl h0 (hK _ _ rfl (Below.refl _ _))
                | 11, _, ho, _ =>
                  obtain rfl := Option.some.inj ho
                  have h0 : a'.eval (.tmp 3) = .int .i64 ((m + 1 : Nat) : Int) := (hx 3 (by decide)).trans rfl
                  exact s_mv _ _ rfl h0 (hK _ _ rfl (Below.refl _ _))
                | 12, _, ho, _ =>
                  obtain rfl := Option.some.inj ho
                  have h0 : a'.eval (.tmp 24) = .int .i64 ((m + 1 : Nat) : Int) := (gds_of hnd 11 24 (by kernel_rfl) :)
                  exact s_sub1 _ _ m rfl h0 ⟨rfl, by omega⟩ (hK _ _ rfl (Below.refl _ _))
                | 13, _, ho, _ =>
                  obtain rfl := Option.some.inj ho
                  have h0 : a'.eval (.tmp 23) = .slice (some ⟨g, o, none⟩) n c := (gds_of hnd 10 23 (by kernel_rfl) :)
                  have h1 : a'.eval (.tmp 25) = .int .i64 (m : Int) := (gds_of hnd 12 25 (by kernel_rfl) :)
                  exact s_ix _ _ _ _ _ _ _ rfl h0 h1 (by omega) (hK _ _ rfl (Below.refl _ _))
                | 14, _, ho, _ =>
                  obtain rfl := Option.some.inj ho
                  have h0 : a'.eval (.tmp 26) = .pointer (some ⟨g, o + m * 21, none⟩) := (gds_of hnd 13 26 (by kernel_rfl) :)
                  exact s_f0 _ _ _ rfl h0 (hK _ _ rfl (Below.refl _ _))
                | 15, _, ho, _ =>
                  obtain rfl := Option.some.inj ho
                  have h0 : a'.eval (.tmp 27) = .pointer (some ⟨g, o + m * 21, none⟩) := (gds_of hnd 14 27 (by kernel_rfl) :)
                  exact s_in _ _ _ _ rfl h0 (hd.out _ hB) (hK _ _ rfl (Below.refl _ _))
                | 16, _, ho, _ =>
                  obtain rfl := Option.some.inj ho
                  have h0 : a'.eval (.tmp 0) = .slice (some ⟨g, o, none⟩) n c := (hx 0 (by decide)).trans rfl
                  exact s_mv _ _ rfl h0 (hK _ _ rfl (Below.refl _ _))
                | 17, _, ho, _ =>
                  obtain rfl := Option.some.inj ho
                  have h0 : a'.eval (.tmp 3) = .int .i64 ((m + 1 : Nat) : Int) := (hx 3 (by decide)).trans rfl
                  exact s_mv _ _ rfl h0 (hK _ _ rfl (Below.refl _ _))
                | 18, _, ho, _ =>
                  obtain rfl := Option.some.inj ho
                  have h0 : a'.eval (.tmp 29) = .slice (some ⟨g, o, none⟩) n c := (gds_of hnd 16 29 (by kernel_rfl) :)
                  have h1 : a'.eval (.tmp 30) = .int .i64 ((m + 1 : Nat) : Int) := (gds_of hnd 17 30 (by kernel_rfl) :)
                  exact s_ix _ _ _ _ _ _ _ rfl h0 h1 hlt (hK _ _ rfl (Below.refl _ _))
                | 19, _, ho, _ =>
                  obtain rfl := Option.some.inj ho
                  have h0 : a'.eval (.tmp 31) = .pointer (some ⟨g, o + ((m + 1)) * 21, none⟩) := (gds_of hnd 18 31 (by kernel_rfl) :)
                  exact s_f0 _ _ _ rfl h0 (hK _ _ rfl (Below.refl _ _))
                | 20, _, ho, _ =>
                  obtain rfl := Option.some.inj ho
                  have h0 : a'.eval (.tmp 32) = .pointer (some ⟨g, o + ((m + 1)) * 21, none⟩) := (gds_of hnd 19 32 (by kernel_rfl) :)
                  exact s_in _ _ _ _ rfl h0 (hc.out _ hB 0 _ rfl) (hK _ _ rfl (Below.refl _ _))
                | 21, _, ho, _ =>
                  obtain rfl := Option.some.inj ho
                  have h0 : a'.eval (.tmp 28) = .int .i64 l := (gds_of hnd 15 28 (by kernel_rfl) :)
                  have h1 : a'.eval (.tmp 33) = .int .i64 y.prio := (gds_of hnd 20 33 (by kernel_rfl) :)
                  exact s_ge _ _ _ _ false rfl h0 h1 hbb.out (hK _ _ rfl (Below.refl _ _))
                | 22, _, ho, _ =>
                  obtain rfl := Option.some.inj ho
                  have h0 : a'.eval (.tmp 22) = .bool true := (gds_of hnd 9 22 (by kernel_rfl) :)
                  have h1 : a'.eval (.tmp 34) = .bool false := (gds_of hnd 21 34 (by kernel_rfl) :)
                  exact s_pk _ _ _ true _ rfl h0 h1 (hK _ _ rfl (Below.refl _ _))
                | j + 23, hj, _, _ => omega
              · intro f v hf hB
                have e0 : f 0 = (.slice (some ⟨g, o, none⟩) n c) := hf (0, 13) (by decide)
                have e1 : f 1 = (.int .i64 ((m + 1 : Nat) : Int)) := hf (1, 14) (by decide)
                have e2 : f 2 = (.pointer (some ⟨g, o + ((m + 1)) * 21, none⟩)) := hf (2, 15) (by decide)
                have e3 : f 3 = (.agg #[.int .i64 y.prio, .int .i64 y.src.base.k, .int .i64 y.src.base.a, .int .i64 y.src.base.b, .int .i64 y.src.base.c, .int .i64 y.src.base.d, .int .i64 y.src.len, .int .i64 y.dst.base.k, .int .i64 y.dst.base.a, .int .i64 y.dst.base.b, .int .i64 y.dst.base.c, .int .i64 y.dst.base.d, .int .i64 y.dst.len, .int .i64 y.proto, .int .i64 y.slo, .int .i64 y.shi, .int .i64 y.dlo, .int .i64 y.dhi, .int .i64 y.tenant, .int .i64 y.weight, .int .i64 y.chain]) := hf (3, 16) (by decide)
                have e4 : f 4 = (.bool true) := hf (4, 17) (by decide)
                have e5 : f 5 = (.bool false) := hf (5, 18) (by decide)
                have e6 : f 6 = (.bool false) := hf (6, 19) (by decide)
                have e7 : f 7 = (.int .i64 ((m + 1 : Nat) : Int)) := hf (7, 20) (by decide)
                have e8 : f 8 = (.bool true) := hf (8, 21) (by decide)
                have e9 : f 9 = (.bool true) := hf (9, 22) (by decide)
                have e10 : f 10 = (.slice (some ⟨g, o, none⟩) n c) := hf (10, 23) (by decide)
                have e11 : f 11 = (.int .i64 ((m + 1 : Nat) : Int)) := hf (11, 24) (by decide)
                have e12 : f 12 = (.int .i64 (m : Int)) := hf (12, 25) (by decide)
                have e13 : f 13 = (.pointer (some ⟨g, o + m * 21, none⟩)) := hf (13, 26) (by decide)
                have e14 : f 14 = (.pointer (some ⟨g, o + m * 21, none⟩)) := hf (14, 27) (by decide)
                have e15 : f 15 = (.int .i64 l) := hf (15, 28) (by decide)
                have e16 : f 16 = (.slice (some ⟨g, o, none⟩) n c) := hf (16, 29) (by decide)
                have e17 : f 17 = (.int .i64 ((m + 1 : Nat) : Int)) := hf (17, 30) (by decide)
                have e18 : f 18 = (.pointer (some ⟨g, o + ((m + 1)) * 21, none⟩)) := hf (18, 31) (by decide)
                have e19 : f 19 = (.pointer (some ⟨g, o + ((m + 1)) * 21, none⟩)) := hf (19, 32) (by decide)
                have e20 : f 20 = (.int .i64 y.prio) := hf (20, 33) (by decide)
                have e21 : f 21 = (.bool false) := hf (21, 34) (by decide)
                have e22 : f 22 = (.bool false) := hf (22, 35) (by decide)
                simp only [List.foldl_cons, List.foldl_nil, List.drop_succ_cons, List.drop_zero, e0, e1, e2, e3, e4, e5, e6, e7, e8, e9, e10, e11, e12, e13, e14, e15, e16, e17, e18, e19, e20, e21, e22]
                clear e0 e1 e2 e3 e4 e5 e6 e7 e8 e9 e10 e11 e12 e13 e14 e15 e16 e17 e18 e19 e20 e21 e22 hf
                go_simp
                have B2 := Lib.hid (bthen hb.out hB)
                clear hB
                go_wp2
                go_roundw
                case rel => exact ⟨m + 1 + 1, by omega, by go_num, Lib.hid (by rw [HS.out, hg.out, HOK.out, decide_eq_true (by have := of_decide_eq_false hbb.out; omega)]; rfl), B2⟩
                case measure => simp [intOf]; omega
            | true =>
              go_wp2_with fail
              refine wp_region_guards (by kernel_rfl) 23 37 [(0, 13), (1, 14), (2, 15), (3, 16), (4, 17), (5, 18), (6, 19), (7, 20), (8, 21), (9, 22), (10, 23), (11, 24), (12, 25), (13, 26), (14, 27), (15, 28), (16, 29), (17, 30), (18, 31), (19, 32), (20, 33), (21, 34), (22, 35)] _ ([.val (.slice (some ⟨g, o, none⟩) n c), .val (.int .i64 ((m + 1 : Nat) : Int)), .val (.pointer (some ⟨g, o + ((m + 1)) * 21, none⟩)), .val (.agg #[.int .i64 y.prio, .int .i64 y.src.base.k, .int .i64 y.src.base.a, .int .i64 y.src.base.b, .int .i64 y.src.base.c, .int .i64 y.src.base.d, .int .i64 y.src.len, .int .i64 y.dst.base.k, .int .i64 y.dst.base.a, .int .i64 y.dst.base.b, .int .i64 y.dst.base.c, .int .i64 y.dst.base.d, .int .i64 y.dst.len, .int .i64 y.proto, .int .i64 y.slo, .int .i64 y.shi, .int .i64 y.dlo, .int .i64 y.dhi, .int .i64 y.tenant, .int .i64 y.weight, .int .i64 y.chain]), .bit true, .bit false, .bit false, .val (.int .i64 ((m + 1 : Nat) : Int)), .bit true, .bit true, .val (.slice (some ⟨g, o, none⟩) n c), .val (.int .i64 ((m + 1 : Nat) : Int)), .val (.int .i64 (m : Int)), .val (.pointer (some ⟨g, o + m * 21, none⟩)), .val (.pointer (some ⟨g, o + m * 21, none⟩)), .val (.int .i64 l), .val (.slice (some ⟨g, o, none⟩) n c), .val (.int .i64 ((m + 1 : Nat) : Int)), .val (.pointer (some ⟨g, o + ((m + 1)) * 21, none⟩)), .val (.pointer (some ⟨g, o + ((m + 1)) * 21, none⟩)), .val (.int .i64 y.prio), .val (.bool true), .val (.bool true)]) (by kernel_rfl) (by kernel_rfl) (by kernel_rfl) rfl rfl ?_ ?_
              · intro j o hj ho hr a' v K' hx hnd hB hK
                match j, hj, ho, hr with
                | 0, _, ho, _ =>
                  obtain rfl := Option.some.inj ho
                  have h0 : a'.eval (.tmp 0) = .slice (some ⟨g, o, none⟩) n c := (hx 0 (by decide)).trans rfl
                  exact s_mv _ _ rfl h0 (hK _ _ rfl (Below.refl _ _))
                | 1, _, ho, _ =>
                  obtain rfl := Option.some.inj ho
                  have h0 : a'.eval (.tmp 3) = .int .i64 ((m + 1 : Nat) : Int) := (hx 3 (by decide)).trans rfl
                  exact s_mv _ _ rfl h0 (hK _ _ rfl (Below.refl _ _))
                | 2, _, ho, _ =>
                  obtain rfl := Option.some.inj ho
                  have h0 : a'.eval (.tmp 13) = .slice (some ⟨g, o, none⟩) n c := (gds_of hnd 0 13 (by kernel_rfl) :)
                  have h1 : a'.eval (.tmp 14) = .int .i64 ((m + 1 : Nat) : Int) := (gds_of hnd 1 14 (by kernel_rfl) :)
                  exact s_ix _ _ _ _ _ _ _ rfl h0 h1 hlt (hK _ _ rfl (Below.refl _ _))
                | 3, _, ho, _ =>
                  obtain rfl := Option.some.inj ho
                  have h0 : a'.eval (.tmp 15) = .pointer (some ⟨g, o + ((m + 1)) * 21, none⟩) := (gds_of hnd 2 15 (by kernel_rfl) :)
                  exact s_ld _ _ _ y rfl h0 (hc.out _ hB) (hK _ _ rfl (Below.refl _ _))
                | 4, _, ho, _ =>
                  obtain rfl := Option.some.inj ho
                  have h0 : a'.eval (.tmp 16) = .agg #[.int .i64 y.prio, .int .i64 y.src.base.k, .int .i64 y.src.base.a, .int .i64 y.src.base.b, .int .i64 y.src.base.c, .int .i64 y.src.base.d, .int .i64 y.src.len, .int .i64 y.dst.base.k, .int .i64 y.dst.base.a, .int .i64 y.dst.base.b, .int .i64 y.dst.base.c, .int .i64 y.dst.base.d, .int .i64 y.dst.len, .int .i64 y.proto, .int .i64 y.slo, .int .i64 y.shi, .int .i64 y.dlo, .int .i64 y.dhi, .int .i64 y.tenant, .int .i64 y.weight, .int .i64 y.chain] := (gds_of hnd 3 16 (by kernel_rfl) :)
                  refine u_okRS _ _ _ rfl h0 (Calls.mono (ruleOkSB y true HOK.out _) ?_)
                  rintro e' v' ⟨rfl, b6⟩
                  exact ⟨_, rfl, hK _ _ rfl b6⟩
                | 5, _, ho, _ =>
                  obtain rfl := Option.some.inj ho
                  have h0 : a'.eval (.tmp 17) = .bool true := (gds_of hnd 4 17 (by kernel_rfl) :)
                  exact s_not _ _ true rfl h0 (hK _ _ rfl (Below.refl _ _))
                | 6, _, ho, _ =>
                  obtain rfl := Option.some.inj ho
                  have h0 : a'.eval (.tmp 18) = .bool false := (gds_of hnd 5 18 (by kernel_rfl) :)
                  exact s_mv _ _ rfl h0 (hK _ _ rfl (Below.refl _ _))
                | 7, _, ho, _ =>
                  obtain rfl := Option.some.inj ho
                  have h0 : a'.eval (.tmp 3) = .int .i64 ((m + 1 : Nat) : Int) := (hx 3 (by decide)).trans rfl
                  exact s_mv _ _ rfl h0 (hK _ _ rfl (Below.refl _ _))
                | 8, _, ho, _ =>
                  obtain rfl := Option.some.inj ho
                  have h0 : a'.eval (.tmp 20) = .int .i64 ((m + 1 : Nat) : Int) := (gds_of hnd 7 20 (by kernel_rfl) :)
                  exact s_gt0 _ _ true rfl h0 hk0 (hK _ _ rfl (Below.refl _ _))
                | 9, _, ho, _ =>
                  obtain rfl := Option.some.inj ho
                  have h0 : a'.eval (.tmp 21) = .bool true := (gds_of hnd 8 21 (by kernel_rfl) :)
                  exact s_mv _ _ rfl h0 (hK _ _ rfl (Below.refl _ _))
                | 10, _, ho, _ =>
                  obtain rfl := Option.some.inj ho
                  have h0 : a'.eval (.tmp 0) = .slice (some ⟨g, o, none⟩) n c := (hx 0 (by decide)).trans rfl
                  exact s_mv _ _ rfl h0 (hK _ _ rfl (Below.refl _ _))
                | 11, _, ho, _ =>
                  obtain rfl := Option.some.inj ho
                  have h0 : a'.eval (.tmp 3) = .int .i64 ((m + 1 : Nat) : Int) := (hx 3 (by decide)).trans rfl
                  exact s_mv _ _ rfl h0 (hK _ _ rfl (Below.refl _ _))
                | 12, _, ho, _ =>
                  obtain rfl := Option.some.inj ho
                  have h0 : a'.eval (.tmp 24) = .int .i64 ((m + 1 : Nat) : Int) := (gds_of hnd 11 24 (by kernel_rfl) :)
                  exact s_sub1 _ _ m rfl h0 ⟨rfl, by omega⟩ (hK _ _ rfl (Below.refl _ _))
                | 13, _, ho, _ =>
                  obtain rfl := Option.some.inj ho
                  have h0 : a'.eval (.tmp 23) = .slice (some ⟨g, o, none⟩) n c := (gds_of hnd 10 23 (by kernel_rfl) :)
                  have h1 : a'.eval (.tmp 25) = .int .i64 (m : Int) := (gds_of hnd 12 25 (by kernel_rfl) :)
                  exact s_ix _ _ _ _ _ _ _ rfl h0 h1 (by omega) (hK _ _ rfl (Below.refl _ _))
                | 14, _, ho, _ =>
                  obtain rfl := Option.some.inj ho
                  have h0 : a'.eval (.tmp 26) = .pointer (some ⟨g, o + m * 21, none⟩) := (gds_of hnd 13 26 (by kernel_rfl) :)
                  exact s_f0 _ _ _ rfl h0 (hK _ _ rfl (Below.refl _ _))
                | 15, _, ho, _ =>
                  obtain rfl := Option.some.inj ho
                  have h0 : a'.eval (.tmp 27) = .pointer (some ⟨g, o + m * 21, none⟩) := (gds_of hnd 14 27 (by kernel_rfl) :)
                  exact s_in _ _ _ _ rfl h0 (hd.out _ hB) (hK _ _ rfl (Below.refl _ _))
                | 16, _, ho, _ =>
                  obtain rfl := Option.some.inj ho
                  have h0 : a'.eval (.tmp 0) = .slice (some ⟨g, o, none⟩) n c := (hx 0 (by decide)).trans rfl
                  exact s_mv _ _ rfl h0 (hK _ _ rfl (Below.refl _ _))
                | 17, _, ho, _ =>
                  obtain rfl := Option.some.inj ho
                  have h0 : a'.eval (.tmp 3) = .int .i64 ((m + 1 : Nat) : Int) := (hx 3 (by decide)).trans rfl
                  exact s_mv _ _ rfl h0 (hK _ _ rfl (Below.refl _ _))
                | 18, _, ho, _ =>
                  obtain rfl := Option.some.inj ho
                  have h0 : a'.eval (.tmp 29) = .slice (some ⟨g, o, none⟩) n c := (gds_of hnd 16 29 (by kernel_rfl) :)
                  have h1 : a'.eval (.tmp 30) = .int .i64 ((m + 1 : Nat) : Int) := (gds_of hnd 17 30 (by kernel_rfl) :)
                  exact s_ix _ _ _ _ _ _ _ rfl h0 h1 hlt (hK _ _ rfl (Below.refl _ _))
                | 19, _, ho, _ =>
                  obtain rfl := Option.some.inj ho
                  have h0 : a'.eval (.tmp 31) = .pointer (some ⟨g, o + ((m + 1)) * 21, none⟩) := (gds_of hnd 18 31 (by kernel_rfl) :)
                  exact s_f0 _ _ _ rfl h0 (hK _ _ rfl (Below.refl _ _))
                | 20, _, ho, _ =>
                  obtain rfl := Option.some.inj ho
                  have h0 : a'.eval (.tmp 32) = .pointer (some ⟨g, o + ((m + 1)) * 21, none⟩) := (gds_of hnd 19 32 (by kernel_rfl) :)
                  exact s_in _ _ _ _ rfl h0 (hc.out _ hB 0 _ rfl) (hK _ _ rfl (Below.refl _ _))
                | 21, _, ho, _ =>
                  obtain rfl := Option.some.inj ho
                  have h0 : a'.eval (.tmp 28) = .int .i64 l := (gds_of hnd 15 28 (by kernel_rfl) :)
                  have h1 : a'.eval (.tmp 33) = .int .i64 y.prio := (gds_of hnd 20 33 (by kernel_rfl) :)
                  exact s_ge _ _ _ _ true rfl h0 h1 hbb.out (hK _ _ rfl (Below.refl _ _))
                | 22, _, ho, _ =>
                  obtain rfl := Option.some.inj ho
                  have h0 : a'.eval (.tmp 22) = .bool true := (gds_of hnd 9 22 (by kernel_rfl) :)
                  have h1 : a'.eval (.tmp 34) = .bool true := (gds_of hnd 21 34 (by kernel_rfl) :)
                  exact s_pk _ _ _ true _ rfl h0 h1 (hK _ _ rfl (Below.refl _ _))
                | j + 23, hj, _, _ => omega
              · intro f v hf hB
                have e0 : f 0 = (.slice (some ⟨g, o, none⟩) n c) := hf (0, 13) (by decide)
                have e1 : f 1 = (.int .i64 ((m + 1 : Nat) : Int)) := hf (1, 14) (by decide)
                have e2 : f 2 = (.pointer (some ⟨g, o + ((m + 1)) * 21, none⟩)) := hf (2, 15) (by decide)
                have e3 : f 3 = (.agg #[.int .i64 y.prio, .int .i64 y.src.base.k, .int .i64 y.src.base.a, .int .i64 y.src.base.b, .int .i64 y.src.base.c, .int .i64 y.src.base.d, .int .i64 y.src.len, .int .i64 y.dst.base.k, .int .i64 y.dst.base.a, .int .i64 y.dst.base.b, .int .i64 y.dst.base.c, .int .i64 y.dst.base.d, .int .i64 y.dst.len, .int .i64 y.proto, .int .i64 y.slo, .int .i64 y.shi, .int .i64 y.dlo, .int .i64 y.dhi, .int .i64 y.tenant, .int .i64 y.weight, .int .i64 y.chain]) := hf (3, 16) (by decide)
                have e4 : f 4 = (.bool true) := hf (4, 17) (by decide)
                have e5 : f 5 = (.bool false) := hf (5, 18) (by decide)
                have e6 : f 6 = (.bool false) := hf (6, 19) (by decide)
                have e7 : f 7 = (.int .i64 ((m + 1 : Nat) : Int)) := hf (7, 20) (by decide)
                have e8 : f 8 = (.bool true) := hf (8, 21) (by decide)
                have e9 : f 9 = (.bool true) := hf (9, 22) (by decide)
                have e10 : f 10 = (.slice (some ⟨g, o, none⟩) n c) := hf (10, 23) (by decide)
                have e11 : f 11 = (.int .i64 ((m + 1 : Nat) : Int)) := hf (11, 24) (by decide)
                have e12 : f 12 = (.int .i64 (m : Int)) := hf (12, 25) (by decide)
                have e13 : f 13 = (.pointer (some ⟨g, o + m * 21, none⟩)) := hf (13, 26) (by decide)
                have e14 : f 14 = (.pointer (some ⟨g, o + m * 21, none⟩)) := hf (14, 27) (by decide)
                have e15 : f 15 = (.int .i64 l) := hf (15, 28) (by decide)
                have e16 : f 16 = (.slice (some ⟨g, o, none⟩) n c) := hf (16, 29) (by decide)
                have e17 : f 17 = (.int .i64 ((m + 1 : Nat) : Int)) := hf (17, 30) (by decide)
                have e18 : f 18 = (.pointer (some ⟨g, o + ((m + 1)) * 21, none⟩)) := hf (18, 31) (by decide)
                have e19 : f 19 = (.pointer (some ⟨g, o + ((m + 1)) * 21, none⟩)) := hf (19, 32) (by decide)
                have e20 : f 20 = (.int .i64 y.prio) := hf (20, 33) (by decide)
                have e21 : f 21 = (.bool true) := hf (21, 34) (by decide)
                have e22 : f 22 = (.bool true) := hf (22, 35) (by decide)
                simp only [List.foldl_cons, List.foldl_nil, List.drop_succ_cons, List.drop_zero, e0, e1, e2, e3, e4, e5, e6, e7, e8, e9, e10, e11, e12, e13, e14, e15, e16, e17, e18, e19, e20, e21, e22]
                clear e0 e1 e2 e3 e4 e5 e6 e7 e8 e9 e10 e11 e12 e13 e14 e15 e16 e17 e18 e19 e20 e21 e22 hf
                go_simp
                have B2 := Lib.hid (bthen hb.out hB)
                clear hB
                go_wp2
                first | go_ret | go_ret3
                exact ⟨ret_bool (HNo.out (by rw [HOK.out, decide_eq_false (by have := of_decide_eq_true hbb.out; omega)]; rfl)).symm, B2.out⟩
      · obtain rfl : k = n := by omega
        have HE := Lib.hid (rulesOk_all (rs := rs) (by rw [HL.out]; omega) (by rw [HL.out]; exact hg.out))
        go_wp2
        go_ret
        exact ⟨ret_bool HE.out.symm, hb.out⟩
end Go.Proofs.Ytdndanbalmoklaa

namespace Go.Proofs.Ytdndanbalmoklaa
set_option maxRecDepth 100000
open Go.RowKit

theorem rulesS_B (A : Option Addr) (n c : Nat) (rs : List Ru) (b : Bool) (h : rulesOk rs = b) (w : World) (hx : RV w w.heap.size A (rcells rs)) (hl : rs.length = n) (hn : n ≤ 1048576) : Calls Try.prog 97 #[.slice A n c] w fun e w' => e = .returned (.bool b) ∧ Below w.heap.size w w' := h ▸ rulesOkS A n c rs w hx hl hn

section
variable {o : Oper} {a : Act} {w : World} {K : Act → World → Prop} {Q : Exit → Act → World → Prop}
theorem u_covSS (x y : Operand) (x0 x1 : Value) (ts : Array TypeId) (ho : o.op = .call { callee := .value (.func 104), args := #[x, y], argTypes := ts }) (h0 : a.eval x = x0) (h1 : a.eval y = x1)
    (h : Calls Try.prog 104 #[x0, x1] w fun e w' => ∃ v, e = .returned v ∧ K (a.put o.dst v) w') : o.wp Try.prog a w K Q := by
  unfold Oper.wp execOp
  simp only [ho, resolve, List.map_toArray, List.map_cons, List.map_nil, h0, h1, show ∀ f, a.eval (.func f) = .func (.func f) #[] #[] from fun _ => rfl]
  go_simp
  exact h.mono fun e w' ⟨u, he, hk⟩ => by subst he; exact hk
end

set_option maxHeartbeats 4000000 in
theorem shadowedS (A : Option Addr) (n c : Nat) (rs : List Ru) (w : World) (hx : RV w w.heap.size A (rcells rs)) (hl : rs.length = n) (hn : n ≤ 1048576) :
    Calls Try.prog 41 #[.slice A n c] w fun e w' => ∃ D m d, e = .returned (.slice D m d) ∧ w'.ownsRow w.heap.size 3 1 (.slice D m d) m (intsOf (shadowed rs)) ∧ Below w.heap.size w w' := by
  have HX := Lib.hid hx
  have HL := Lib.hid hl
  have O0 : Hid ((w.alloc (.cells #[] 3)).ownsRow w.heap.size 3 1 (.slice (some ⟨w.heap.size, 0, none⟩) 0 0) 0 (intsOf [])) := Lib.hid ⟨rfl, .inr ⟨w.heap.size, 0, #[], rfl, Nat.le_refl _, heap_alloc_new w _, Nat.le_refl _, Nat.zero_le _, rfl, rfl⟩⟩
  have B0 := Lib.hid (Joins.below_alloc1 w (.cells #[] 3))
  have X0 := Lib.hid (hx.on B0.out)
  clear hx hl
  cases hok : rulesOk rs with
  | false =>
    have HR := Lib.hid (rulesS_B A n c rs false hok)
    have HS := Lib.hid (shadowed_no hok)
    clear hok
    go_enter Try.func41, Try.ntmps41
    go_wp2_with fail
    refine Calls.mono (HR.out _ X0.out HL.out hn) ?_
    rintro e w1 ⟨rfl, b1⟩
    have O1 := Lib.hid (own_below O0.out b1)
    have B1 := Lib.hid (bthen B0.out b1)
    clear b1
    go_wp2
    go_ret
    exact ⟨_, 0, 0, rfl, by rw [HS.out]; exact O1.out, B1.out⟩
  | true =>
    have HR := Lib.hid (rulesS_B A n c rs true hok)
    have HS := Lib.hid (shadowed_yes hok)
    have h32 := rulesOk_len hok
    rw [HL.out] at h32
    clear hok
    go_enter Try.func41, Try.ntmps41
    go_wp2_with fail
    refine Calls.mono (HR.out _ X0.out HL.out hn) ?_
    rintro e w1 ⟨rfl, b1⟩
    have O1 := Lib.hid (own_below O0.out b1)
    have B1 := Lib.hid (bthen B0.out b1)
    clear b1 O0 B0 X0
    go_wp2
    go_loopw [3, 4] (fun d i wr => ∃ (k m : Nat), k ≤ n ∧ m ≤ k ∧ i = .int .i64 k ∧ Hid (wr.ownsRow w.heap.size 3 1 d m (intsOf (darkTo rs k))) ∧ Hid (Below w.heap.size w wr)) (fun _ i _ => n - (intOf i).toNat)
    case atStart => exact ⟨0, 0, Nat.zero_le _, Nat.zero_le _, rfl, O1, B1⟩
    case round =>
      obtain ⟨k, m, hk, hmk, rfl, ho, hb⟩ := hrel
      clear O1 B1
      by_cases hlt : k < n
      · have hk1 : k < rs.length := by rw [HL.out]; exact hlt
        obtain ⟨g, o, rfl, hgl, hc0⟩ := HX.out.rule hk1
        have hcy := Lib.hid (fun (v : World) (hv : Below w.heap.size w v) => (show v.rangeAt g (o + k * 21) rs[k].cells from fun j u hu => (hv.cell (p := ⟨g, o + k * 21 + j, none⟩) hgl).trans (hc0 j u hu)))
        have HD := Lib.hid (darkTo_succ rs k)
        have HAt := Lib.hid (darkAt_at hk1)
        clear hc0
        have HGL := Lib.hid hgl
        clear hgl
        generalize rs[k] = y at *
        go_wp2
        go_loopw [5, 6] (fun q i wv => ∃ (z : Nat) (b : Bool), z ≤ k ∧ i = .int .i64 z ∧ q = .bool b ∧ Hid ((rs.take z).any (fun r => r.covers y) = b) ∧ Hid (wv.ownsRow w.heap.size 3 1 u3 m (intsOf (darkTo rs k))) ∧ Hid (Below w.heap.size w wv)) (fun _ i _ => k - (intOf i).toNat)
        case atStart => exact ⟨0, false, Nat.zero_le _, rfl, rfl, Lib.hid (by simp), ho, hb⟩
        case round =>
          obtain ⟨z, b, hz, rfl, rfl, HA, HO, HB⟩ := hrel
          clear ho hb
          by_cases hjk : z < k
          · have hj1 : z < rs.length := by rw [HL.out]; omega
            obtain ⟨g', o', e', hgl', hc1⟩ := HX.out.rule hj1
            obtain ⟨rfl, rfl⟩ : g = g' ∧ o = o' := by injection e' with e2; injection e2 with e3 e4; exact ⟨e3, e4⟩
            have hcj := Lib.hid (fun (v : World) (hv : Below w.heap.size w v) => (show v.rangeAt g (o + z * 21) rs[z].cells from fun i u hu => (hv.cell (p := ⟨g, o + z * 21 + i, none⟩) HGL.out).trans (hc1 i u hu)))
            have HS2 := Lib.hid (any_succ (s := y) hj1)
            clear hc1 hgl' e'
            generalize rs[z] = x at *
            have HS := HS2
            clear HS2
            cases b with
            | true =>
              go_wp2_with fail
              refine wp_region_guards (by kernel_rfl) 12 41 [(0, 23), (1, 24), (2, 25), (3, 26), (4, 27), (5, 28), (6, 29), (7, 30), (8, 31), (9, 32), (10, 33), (11, 34)] _ ([.bit true, .bit true, .skip, .skip, .skip, .skip, .skip, .skip, .skip, .skip, .skip, .val (.bool true)]) (by kernel_rfl) (by kernel_rfl) (by kernel_rfl) rfl rfl ?_ ?_
              · intro j o hj ho hr a' v K' hx hnd hB hK
                match j, hj, ho, hr with
                | 0, _, ho, _ =>
                  obtain rfl := Option.some.inj ho
                  have h0 : a'.eval (.tmp 5) = .bool true := (hx 5 (by decide)).trans rfl
                  exact s_mv _ _ rfl h0 (hK _ _ rfl (Below.refl _ _))
                | 1, _, ho, _ =>
                  obtain rfl := Option.some.inj ho
                  have h0 : a'.eval (.tmp 23) = .bool true := (gds_of hnd 0 23 (by kernel_rfl) :)
                  exact s_mv _ _ rfl h0 (hK _ _ rfl (Below.refl _ _))
                | 2, _, ho, hr =>
                  obtain rfl := Option.some.inj ho
                  exact Bool.noConfusion (show false = true from hr)
                | 3, _, ho, hr =>
                  obtain rfl := Option.some.inj ho
                  exact Bool.noConfusion (show false = true from hr)
                | 4, _, ho, hr =>
                  obtain rfl := Option.some.inj ho
                  exact Bool.noConfusion (show false = true from hr)
                | 5, _, ho, hr =>
                  obtain rfl := Option.some.inj ho
                  exact Bool.noConfusion (show false = true from hr)
                | 6, _, ho, hr =>
                  obtain rfl := Option.some.inj ho
                  exact Bool.noConfusion (show false = true from hr)
                | 7, _, ho, hr =>
                  obtain rfl := Option.some.inj ho
                  exact Bool.noConfusion (show false = true from hr)
                | 8, _, ho, hr =>
                  obtain rfl := Option.some.inj ho
                  exact Bool.noConfusion (show false = true from hr)
                | 9, _, ho, hr =>
                  obtain rfl := Option.some.inj ho
                  exact Bool.noConfusion (show false = true from hr)
                | 10, _, ho, hr =>
                  obtain rfl := Option.some.inj ho
                  exact Bool.noConfusion (show false = true from hr)
                | 11, _, ho, _ =>
                  obtain rfl := Option.some.inj ho
                  have h0 : a'.eval (.tmp 24) = .bool true := (gds_of hnd 1 24 (by kernel_rfl) :)
                  exact s_pk _ _ _ true _ rfl h0 rfl (hK _ _ rfl (Below.refl _ _))
                | j + 12, hj, _, _ => omega
              · intro f v hf hB
                have e0 : f 0 = (.bool true) := hf (0, 23) (by decide)
                have e1 : f 1 = (.bool true) := hf (1, 24) (by decide)
                have e2 : f 2 = undef := hf (2, 25) (by decide)
                have e3 : f 3 = undef := hf (3, 26) (by decide)
                have e4 : f 4 = undef := hf (4, 27) (by decide)
                have e5 : f 5 = undef := hf (5, 28) (by decide)
                have e6 : f 6 = undef := hf (6, 29) (by decide)
                have e7 : f 7 = undef := hf (7, 30) (by decide)
                have e8 : f 8 = undef := hf (8, 31) (by decide)
                have e9 : f 9 = undef := hf (9, 32) (by decide)
                have e10 : f 10 = undef := hf (10, 33) (by decide)
                have e11 : f 11 = (.bool true) := hf (11, 34) (by decide)
                simp only [List.foldl_cons, List.foldl_nil, List.drop_succ_cons, List.drop_zero, e0, e1, e2, e3, e4, e5, e6, e7, e8, e9, e10, e11]
                clear e0 e1 e2 e3 e4 e5 e6 e7 e8 e9 e10 e11 hf
                go_simp
                have B3 := Lib.hid (bthen HB.out hB)
                have O3 := Lib.hid (own_below HO.out hB)
                clear hB
                go_wp2
                go_roundw
                case rel => exact ⟨z + 1, true, by omega, by go_num, rfl, Lib.hid (by rw [HS.out, HA.out]; rfl), O3, B3⟩
                case measure => simp [intOf]; omega
            | false =>
              obtain ⟨b2, hc⟩ : ∃ b2, x.covers y = b2 := ⟨_, rfl⟩
              have HC := Lib.hid hc
              clear hc
              go_wp2_with fail
              refine wp_region_guards (by kernel_rfl) 12 41 [(0, 23), (1, 24), (2, 25), (3, 26), (4, 27), (5, 28), (6, 29), (7, 30), (8, 31), (9, 32), (10, 33), (11, 34)] _ ([.bit false, .bit false, .val (.slice (some ⟨g, o, none⟩) n c), .val (.int .i64 (z : Int)), .val (.pointer (some ⟨g, o + z * 21, none⟩)), .val (.agg #[.int .i64 x.prio, .int .i64 x.src.base.k, .int .i64 x.src.base.a, .int .i64 x.src.base.b, .int .i64 x.src.base.c, .int .i64 x.src.base.d, .int .i64 x.src.len, .int .i64 x.dst.base.k, .int .i64 x.dst.base.a, .int .i64 x.dst.base.b, .int .i64 x.dst.base.c, .int .i64 x.dst.base.d, .int .i64 x.dst.len, .int .i64 x.proto, .int .i64 x.slo, .int .i64 x.shi, .int .i64 x.dlo, .int .i64 x.dhi, .int .i64 x.tenant, .int .i64 x.weight, .int .i64 x.chain]), .val (.slice (some ⟨g, o, none⟩) n c), .val (.int .i64 (k : Int)), .val (.pointer (some ⟨g, o + k * 21, none⟩)), .val (.agg #[.int .i64 y.prio, .int .i64 y.src.base.k, .int .i64 y.src.base.a, .int .i64 y.src.base.b, .int .i64 y.src.base.c, .int .i64 y.src.base.d, .int .i64 y.src.len, .int .i64 y.dst.base.k, .int .i64 y.dst.base.a, .int .i64 y.dst.base.b, .int .i64 y.dst.base.c, .int .i64 y.dst.base.d, .int .i64 y.dst.len, .int .i64 y.proto, .int .i64 y.slo, .int .i64 y.shi, .int .i64 y.dlo, .int .i64 y.dhi, .int .i64 y.tenant, .int .i64 y.weight, .int .i64 y.chain]), .val (.bool b2), .val (.bool b2)]) (by kernel_rfl) (by kernel_rfl) (by kernel_rfl) rfl rfl ?_ ?_
              · intro j o hj ho hr a' v K' hx hnd hB hK
                match j, hj, ho, hr with
                | 0, _, ho, _ =>
                  obtain rfl := Option.some.inj ho
                  have h0 : a'.eval (.tmp 5) = .bool false := (hx 5 (by decide)).trans rfl
                  exact s_mv _ _ rfl h0 (hK _ _ rfl (Below.refl _ _))
                | 1, _, ho, _ =>
                  obtain rfl := Option.some.inj ho
                  have h0 : a'.eval (.tmp 23) = .bool false := (gds_of hnd 0 23 (by kernel_rfl) :)
                  exact s_mv _ _ rfl h0 (hK _ _ rfl (Below.refl _ _))
                | 2, _, ho, _ =>
                  obtain rfl := Option.some.inj ho
                  have h0 : a'.eval (.tmp 0) = .slice (some ⟨g, o, none⟩) n c := (hx 0 (by decide)).trans rfl
                  exact s_mv _ _ rfl h0 (hK _ _ rfl (Below.refl _ _))
                | 3, _, ho, _ =>
                  obtain rfl := Option.some.inj ho
                  have h0 : a'.eval (.tmp 6) = .int .i64 (z : Int) := (hx 6 (by decide)).trans rfl
                  exact s_mv _ _ rfl h0 (hK _ _ rfl (Below.refl _ _))
                | 4, _, ho, _ =>
                  obtain rfl := Option.some.inj ho
                  have h0 : a'.eval (.tmp 25) = .slice (some ⟨g, o, none⟩) n c := (gds_of hnd 2 25 (by kernel_rfl) :)
                  have h1 : a'.eval (.tmp 26) = .int .i64 (z : Int) := (gds_of hnd 3 26 (by kernel_rfl) :)
                  exact s_ix _ _ _ _ _ _ _ rfl h0 h1 (by omega) (hK _ _ rfl (Below.refl _ _))
                | 5, _, ho, _ =>
                  obtain rfl := Option.some.inj ho
                  have h0 : a'.eval (.tmp 27) = .pointer (some ⟨g, o + z * 21, none⟩) := (gds_of hnd 4 27 (by kernel_rfl) :)
                  exact s_ld _ _ _ x rfl h0 (hcj.out _ (bthen HB.out hB)) (hK _ _ rfl (Below.refl _ _))
                | 6, _, ho, _ =>
                  obtain rfl := Option.some.inj ho
                  have h0 : a'.eval (.tmp 0) = .slice (some ⟨g, o, none⟩) n c := (hx 0 (by decide)).trans rfl
                  exact s_mv _ _ rfl h0 (hK _ _ rfl (Below.refl _ _))
                | 7, _, ho, _ =>
                  obtain rfl := Option.some.inj ho
                  have h0 : a'.eval (.tmp 4) = .int .i64 (k : Int) := (hx 4 (by decide)).trans rfl
                  exact s_mv _ _ rfl h0 (hK _ _ rfl (Below.refl _ _))
                | 8, _, ho, _ =>
                  obtain rfl := Option.some.inj ho
                  have h0 : a'.eval (.tmp 29) = .slice (some ⟨g, o, none⟩) n c := (gds_of hnd 6 29 (by kernel_rfl) :)
                  have h1 : a'.eval (.tmp 30) = .int .i64 (k : Int) := (gds_of hnd 7 30 (by kernel_rfl) :)
                  exact s_ix _ _ _ _ _ _ _ rfl h0 h1 hlt (hK _ _ rfl (Below.refl _ _))
                | 9, _, ho, _ =>
                  obtain rfl := Option.some.inj ho
                  have h0 : a'.eval (.tmp 31) = .pointer (some ⟨g, o + k * 21, none⟩) := (gds_of hnd 8 31 (by kernel_rfl) :)
                  exact s_ld _ _ _ y rfl h0 (hcy.out _ (bthen HB.out hB)) (hK _ _ rfl (Below.refl _ _))
                | 10, _, ho, _ =>
                  obtain rfl := Option.some.inj ho
                  have h0 : a'.eval (.tmp 28) = .agg #[.int .i64 x.prio, .int .i64 x.src.base.k, .int .i64 x.src.base.a, .int .i64 x.src.base.b, .int .i64 x.src.base.c, .int .i64 x.src.base.d, .int .i64 x.src.len, .int .i64 x.dst.base.k, .int .i64 x.dst.base.a, .int .i64 x.dst.base.b, .int .i64 x.dst.base.c, .int .i64 x.dst.base.d, .int .i64 x.dst.len, .int .i64 x.proto, .int .i64 x.slo, .int .i64 x.shi, .int .i64 x.dlo, .int .i64 x.dhi, .int .i64 x.tenant, .int .i64 x.weight, .int .i64 x.chain] := (gds_of hnd 5 28 (by kernel_rfl) :)
                  have h1 : a'.eval (.tmp 32) = .agg #[.int .i64 y.prio, .int .i64 y.src.base.k, .int .i64 y.src.base.a, .int .i64 y.src.base.b, .int .i64 y.src.base.c, .int .i64 y.src.base.d, .int .i64 y.src.len, .int .i64 y.dst.base.k, .int .i64 y.dst.base.a, .int .i64 y.dst.base.b, .int .i64 y.dst.base.c, .int .i64 y.dst.base.d, .int .i64 y.dst.len, .int .i64 y.proto, .int .i64 y.slo, .int .i64 y.shi, .int .i64 y.dlo, .int .i64 y.dhi, .int .i64 y.tenant, .int .i64 y.weight, .int .i64 y.chain] := (gds_of hnd 9 32 (by kernel_rfl) :)
                  refine u_covSS _ _ _ _ _ rfl h0 h1 (Calls.mono (ruleCovSB x y b2 HC.out _) ?_)
                  rintro e' v' ⟨rfl, b6⟩
                  exact ⟨_, rfl, hK _ _ rfl b6⟩
                | 11, _, ho, _ =>
                  obtain rfl := Option.some.inj ho
                  have h0 : a'.eval (.tmp 24) = .bool false := (gds_of hnd 1 24 (by kernel_rfl) :)
                  have h1 : a'.eval (.tmp 33) = .bool b2 := (gds_of hnd 10 33 (by kernel_rfl) :)
                  exact s_pk _ _ _ false _ rfl h0 h1 (hK _ _ rfl (Below.refl _ _))
                | j + 12, hj, _, _ => omega
              · intro f v hf hB
                have e0 : f 0 = (.bool false) := hf (0, 23) (by decide)
                have e1 : f 1 = (.bool false) := hf (1, 24) (by decide)
                have e2 : f 2 = (.slice (some ⟨g, o, none⟩) n c) := hf (2, 25) (by decide)
                have e3 : f 3 = (.int .i64 (z : Int)) := hf (3, 26) (by decide)
                have e4 : f 4 = (.pointer (some ⟨g, o + z * 21, none⟩)) := hf (4, 27) (by decide)
                have e5 : f 5 = (.agg #[.int .i64 x.prio, .int .i64 x.src.base.k, .int .i64 x.src.base.a, .int .i64 x.src.base.b, .int .i64 x.src.base.c, .int .i64 x.src.base.d, .int .i64 x.src.len, .int .i64 x.dst.base.k, .int .i64 x.dst.base.a, .int .i64 x.dst.base.b, .int .i64 x.dst.base.c, .int .i64 x.dst.base.d, .int .i64 x.dst.len, .int .i64 x.proto, .int .i64 x.slo, .int .i64 x.shi, .int .i64 x.dlo, .int .i64 x.dhi, .int .i64 x.tenant, .int .i64 x.weight, .int .i64 x.chain]) := hf (5, 28) (by decide)
                have e6 : f 6 = (.slice (some ⟨g, o, none⟩) n c) := hf (6, 29) (by decide)
                have e7 : f 7 = (.int .i64 (k : Int)) := hf (7, 30) (by decide)
                have e8 : f 8 = (.pointer (some ⟨g, o + k * 21, none⟩)) := hf (8, 31) (by decide)
                have e9 : f 9 = (.agg #[.int .i64 y.prio, .int .i64 y.src.base.k, .int .i64 y.src.base.a, .int .i64 y.src.base.b, .int .i64 y.src.base.c, .int .i64 y.src.base.d, .int .i64 y.src.len, .int .i64 y.dst.base.k, .int .i64 y.dst.base.a, .int .i64 y.dst.base.b, .int .i64 y.dst.base.c, .int .i64 y.dst.base.d, .int .i64 y.dst.len, .int .i64 y.proto, .int .i64 y.slo, .int .i64 y.shi, .int .i64 y.dlo, .int .i64 y.dhi, .int .i64 y.tenant, .int .i64 y.weight, .int .i64 y.chain]) := hf (9, 32) (by decide)
                have e10 : f 10 = (.bool b2) := hf (10, 33) (by decide)
                have e11 : f 11 = (.bool b2) := hf (11, 34) (by decide)
                simp only [List.foldl_cons, List.foldl_nil, List.drop_succ_cons, List.drop_zero, e0, e1, e2, e3, e4, e5, e6, e7, e8, e9, e10, e11]
                clear e0 e1 e2 e3 e4 e5 e6 e7 e8 e9 e10 e11 hf
                go_simp
                have B3 := Lib.hid (bthen HB.out hB)
                have O3 := Lib.hid (own_below HO.out hB)
                clear hB
                go_wp2
                go_roundw
                case rel => exact ⟨z + 1, b2, by omega, by go_num, rfl, Lib.hid (by rw [HS.out, HA.out, HC.out]; rfl), O3, B3⟩
                case measure => simp [intOf]; omega
          · obtain rfl : z = k := by omega
            have HA2 := Lib.hid (HAt.out.trans HA.out)
            cases b with
            | false =>
              go_wp2
              go_roundw
              case rel => exact ⟨z + 1, m, by omega, by omega, by go_num, Lib.hid (by rw [HD.out, HA2.out]; simpa using HO.out), HB⟩
              case measure => simp [intOf]; omega
            | true =>
              have O4 := Lib.hid (own_below HO.out (Joins.below_alloc1 wr (.cells #[.int .i64 (z : Int)] 3)))
              have B4 := Lib.hid (bthen HB.out (Joins.below_alloc1 wr (.cells #[.int .i64 (z : Int)] 3)))
              have Z3 : w.heap.size ≤ wr.heap.size := HB.out.size
              have lo := O4.out.lt
              have rv := Lib.hid (RV.new wr 3 (intsOf [(z : Int)]))
              go_wp2_with (at_builtin; refine wpList_append_i rfl (.tmp 36) (.tmp 38) rfl w.heap.size u3 m (darkTo rs z) rfl O4.out _ (some ⟨wr.heap.size, 0, none⟩) 1 1 [(z : Int)] rfl rfl rv.out (by omega) (by simp; omega) ?_; intro v3 w4 hown3 hg3 _)
              have O5 := Lib.hid hown3
              have B5 := Lib.hid (bgrown B4.out hg3 (fun q hq => (lo q hq).1))
              clear hown3 hg3
              go_wp2
              go_roundw
              case rel => exact ⟨z + 1, m + 1, by omega, by omega, by go_num, Lib.hid (by rw [HD.out, HA2.out]; simpa using O5.out), B5⟩
              case measure => simp [intOf]; omega
      · obtain rfl : k = n := by omega
        obtain ⟨D, d', rfl⟩ := own_form ho.out
        have OE := Lib.hid (show wr.ownsRow w.heap.size 3 1 (.slice D m d') m (intsOf (shadowed rs)) by rw [HS.out, HL.out]; exact ho.out)
        clear ho
        go_wp2
        go_ret
        exact ⟨D, m, d', rfl, OE.out, hb.out⟩
end Go.Proofs.Ytdndanbalmoklaa
