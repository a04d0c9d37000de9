/-
  A region that draws its order, the first k operations of which may come up in any order, some of them under a guard that is known ahead ('&&', '||'), and the others only behind all of them and in their own order. Plain: any program.
-/
import Derived.Test.YtmfkpiclpkeemaaRegThen
namespace Go.Proofs.Ytmfkpiclpkeemaa
set_option maxRecDepth 100000
open Go.RowKit

section
variable {P : Program} {ops : Array Oper} {Q : Exit → Act → World → Prop}

/-- Does an operation run, where the slots of those that guard are known: 'some (some b)': it holds b; 'some none': it was left out itself. -/
def runsB (V : Nat → Option (Option Bool)) (o : Oper) : Bool :=
  match o.guard with
  | none => true
  | some (g, want) => match V g with
    | some (some b) => b == want
    | _ => false
/-- A guard is an operation on which the guarded one waits, and its slot is known. -/
def gokB (ops : Array Oper) (V : Nat → Option (Option Bool)) (j : Nat) (o : Oper) : Bool :=
  match o.guard with
  | none => true
  | some (g, _) => (depsOf ops j).contains g && (V g).isSome && ((ops[g]?).bind (·.dst)).isSome
def valOf : Option Bool → Value
  | some b => .bool b
  | none => undef
theorem wanted_runs {V : Nat → Option (Option Bool)} {j n : Nat} {o : Oper} {a : Act} (h : gokB ops V j o = true) (hn : a.tmps.size = n)
    (hs : ∀ g og d, g ∈ depsOf ops j → ops[g]? = some og → og.dst = some d → d < n ∧ ∀ x, V g = some x → a.tmps.getD d undef = valOf x) : Region.wanted o (yielded ops a.tmps) = runsB V o := by
  unfold Region.wanted runsB
  cases hg : o.guard with
  | none => rfl
  | some p =>
    obtain ⟨g, want⟩ := p
    simp only [gokB, hg, Bool.and_eq_true] at h
    obtain ⟨⟨h1, h2⟩, h3⟩ := h
    obtain ⟨d, hd⟩ := Option.isSome_iff_exists.1 h3
    obtain ⟨og, ho, hd⟩ := Option.bind_eq_some_iff.1 hd
    obtain ⟨x, hx⟩ := Option.isSome_iff_exists.1 h2
    obtain ⟨hlt, hv⟩ := hs g og d (by simpa using h1) ho hd
    have hv := hv x hx
    have e : a.tmps[d]? = some (valOf x) := by
      rw [← hv]
      simp [show d < a.tmps.size by rw [hn]; exact hlt]
    simp only [hx]
    unfold yielded
    simp only [ho, Option.bind_some, hd, e]
    cases x with
    | none => rfl
    | some b => simp [valOf]

/-- What is asked of the region's form. -/
def guardB (ops : Array Oper) (V : Nat → Option (Option Bool)) (n k : Nat) : Bool :=
  decide (k < ops.size) && ((List.range k).all fun j => (markOf ops (k + 1) [k]).contains j) && ((List.range ops.size).all fun j => match ops[j]? with
    | none => true
    | some o => o.after.all (fun e => !Region.binds .any e || decide (e.on < j)) && (if j < k then gokB ops V j o && (match o.dst with
        | none => true
        | some d => decide (d < n) && (List.range k).all fun i => decide (i = j) || decide ((ops[i]?).bind (·.dst) ≠ some d))
      else decide (j = k) || (depsOf ops j).contains (j - 1)))
theorem guardB_at {V : Nat → Option (Option Bool)} {n k : Nat} (h : guardB ops V n k = true) {j : Nat} {o : Oper} (ho : ops[j]? = some o) :
    (∀ e ∈ o.after, Region.binds .any e = true → e.on < j) ∧ (j < k → gokB ops V j o = true ∧ ∀ d, o.dst = some d → d < n ∧ ∀ i oi, i < k → ops[i]? = some oi → oi.dst = some d → i = j) ∧ (k < j → j - 1 ∈ depsOf ops j) := by
  have hj : j < ops.size := (Array.getElem?_eq_some_iff.1 ho).1
  simp only [guardB, Bool.and_eq_true] at h
  have h1 := List.all_eq_true.1 h.2 j (List.mem_range.2 hj)
  rw [ho] at h1
  simp only [Bool.and_eq_true] at h1
  refine ⟨fun e he hb => ?_, fun hjk => ?_, fun hkj => ?_⟩
  · have := Array.all_eq_true_iff_forall_mem.1 h1.1 e he
    simpa [hb] using this
  · have h2 := h1.2
    rw [if_pos hjk] at h2
    simp only [Bool.and_eq_true] at h2
    refine ⟨h2.1, fun d hd => ?_⟩
    have h3 := h2.2
    rw [hd] at h3
    simp only [Bool.and_eq_true, decide_eq_true_eq] at h3
    refine ⟨h3.1, fun i oi hik hi hdi => ?_⟩
    have h4 := List.all_eq_true.1 h3.2 i (List.mem_range.2 hik)
    rw [hi] at h4
    simp only [Option.bind_some, hdi, ne_eq, not_true, decide_false, Bool.or_false, decide_eq_true_eq] at h4
    exact h4
  · have h2 := h1.2
    rw [if_neg (by omega)] at h2
    simp only [Bool.or_eq_true, decide_eq_true_eq, List.contains_eq_mem] at h2
    rcases h2 with h2 | h2
    · omega
    · exact h2
theorem guardB_all {V : Nat → Option (Option Bool)} {n k : Nat} (h : guardB ops V n k = true) (S : Nat → Prop) (hS : ∀ j i, S j → i ∈ depsOf ops j → S i) (hk : S k) : k < ops.size ∧ ∀ j, j < k → S j := by
  simp only [guardB, Bool.and_eq_true, decide_eq_true_eq] at h
  refine ⟨h.1.1, fun j hj => ?_⟩
  have h1 := List.all_eq_true.1 h.1.2 j (List.mem_range.2 hj)
  exact markOf_spec S hS (k + 1) [k] (fun l hl => by simp only [List.mem_singleton] at hl; subst hl; exact hk) j (by simpa using h1)

/-- The last operations, in their order. -/
theorem wpAny_gtail {V : Nat → Option (Option Bool)} {n k : Nat} (hf : guardB ops V n k = true) : ∀ (fuel q : Nat) (listed : Array Bool) (a : Act) (w : World), k ≤ q → q ≤ ops.size → listed.size = ops.size → (∀ i, i < ops.size → (listed.getD i false = true ↔ i < q)) → ops.size ≤ q + fuel →
    wpList P ops Q (ops.toList.drop q) a w → wpAny P .any ops Q fuel listed a w := by
  have only : ∀ (q : Nat) (listed : Array Bool), k ≤ q → listed.size = ops.size → (∀ i, i < ops.size → (listed.getD i false = true ↔ i < q)) → ∀ i, i ∈ Region.ready .any ops listed → i = q ∧ q < ops.size := by
    intro q listed hkq hs hl i hi
    obtain ⟨h0, o, ho, hall⟩ := mem_ready.1 hi
    have hi2 : i < ops.size := (Array.getElem?_eq_some_iff.1 ho).1
    have hi3 : i < listed.size := by omega
    have hif : listed.getD i false = false := by simpa [hi3] using h0
    have h1 : ¬ i < q := fun h => by rw [(hl i hi2).2 h] at hif; cases hif
    rcases Nat.lt_or_ge q i with h | h
    · obtain ⟨o', ho', e, he, heq, hb⟩ := depsOf_spec ((guardB_at hf ho).2.2 (by omega))
      obtain rfl : o = o' := Option.some.inj (ho.symm.trans ho')
      have := hall e he hb
      rw [heq] at this
      have := (hl (i - 1) (by omega)).1 this
      omega
    · exact ⟨by omega, by omega⟩
  intro fuel
  induction fuel with
  | zero =>
    intro q listed a w hkq hq hs hl hle hw
    refine ⟨?_, ?_⟩
    · cases hr : Region.ready .any ops listed with
      | nil => rfl
      | cons i l =>
        have := only q listed hkq hs hl i (by rw [hr]; simp)
        omega
    · rw [List.drop_eq_nil_of_le (by simp; omega)] at hw
      exact hw
  | succ fuel ih =>
    intro q listed a w hkq hq hs hl hle hw
    refine ⟨fun hr => ?_, fun i hi => ?_⟩
    · rcases Nat.lt_or_ge q ops.size with h | h
      · exfalso
        obtain ⟨o, ho⟩ : ∃ o, ops[q]? = some o := ⟨_, Array.getElem?_eq_getElem h⟩
        have hm : q ∈ Region.ready .any ops listed := by
          refine mem_ready.2 ⟨?_, o, ho, fun e he hb => ?_⟩
          · have h2 : q < listed.size := by omega
            have h3 : listed.getD q false = false := by
              cases hg : listed.getD q false
              · rfl
              · have := (hl q h).1 hg
                omega
            simpa [h2] using h3
          · have := (guardB_at hf ho).1 e he hb
            exact (hl e.on (by omega)).2 this
        rw [hr] at hm
        cases hm
      · rw [List.drop_eq_nil_of_le (by simp; omega)] at hw
        exact hw
    · obtain ⟨rfl, hlt⟩ := only q listed hkq hs hl i hi
      have ho : ops[i]? = some ops[i] := Array.getElem?_eq_getElem hlt
      have e : ops.toList.drop i = ops[i] :: ops.toList.drop (i + 1) := by
        rw [List.drop_eq_getElem_cons (by simpa using hlt)]
        simp
      rw [e] at hw
      have next : ∀ a' w', wpList P ops Q (ops.toList.drop (i + 1)) a' w' → wpAny P .any ops Q fuel (listed.setIfInBounds i true) a' w' := by
        intro a' w' h
        refine ih (i + 1) _ a' w' (by omega) (by omega) (by simpa using hs) (fun j hj => ?_) (by omega) h
        by_cases hji : j = i
        · subst hji
          simp [hs, hj]
        · rw [getD_set_ne (listed := listed) false (Ne.symm hji), hl j hj]
          omega
      unfold wpOp
      simp only [ho]
      unfold wpList at hw
      split
      · rename_i hwn
        rw [if_pos hwn] at hw
        rcases hw with hw | hw
        · exact .inl (Oper.wp_mono next hw)
        · exact .inr hw
      · rename_i hwn
        rw [if_neg hwn] at hw
        exact next _ _ hw

/-- What stands while the first operations run. -/
structure KeptGu (ops : Array Oper) (Γ : Nat → World → Value → Prop) (I : World → Prop) (n k : Nat) (a0 : Act) (listed : Array Bool) (a : Act) (w : World) : Prop where
  size : listed.size = ops.size
  len : a.tmps.size = n
  defers : a.defers = a0.defers
  keep : ∀ t, (∀ (j : Nat) o, j < k → ops[j]? = some o → o.dst ≠ some t) → a.tmps.getD t undef = a0.tmps.getD t undef
  none : ∀ i, k ≤ i → listed.getD i false = false
  closed : ∀ j, listed.getD j false = true → ∀ i ∈ depsOf ops j, listed.getD i false = true
  inv : I w
  slots : ∀ (j : Nat) o d, j < k → ops[j]? = some o → o.dst = some d → listed.getD j false = true → Γ j w (a.tmps.getD d undef)

theorem wpAny_guard {V : Nat → Option (Option Bool)} {Γ : Nat → World → Value → Prop} {I : World → Prop} {n k : Nat} {a0 : Act} (hf : guardB ops V n k = true)
    (hV : ∀ g w u x, Γ g w u → V g = some x → u = valOf x) (hskip : ∀ j o, j < k → ops[j]? = some o → runsB V o = false → ∀ w, Γ j w undef)
    (hop : ∀ (j : Nat) o, j < k → ops[j]? = some o → runsB V o = true → ∀ a w K, (∀ t, (∀ (j : Nat) o, j < k → ops[j]? = some o → o.dst ≠ some t) → a.tmps.getD t undef = a0.tmps.getD t undef) → (∀ p ∈ needOf ops j, Γ p.1 w (a.tmps.getD p.2 undef)) → I w →
      (∀ v w', Γ j w' v → (∀ i u, Γ i w u → Γ i w' u) → I w' → K (a.put o.dst v) w') → o.wp P a w K Q)
    (hend : ∀ a w, a.tmps.size = n → a.defers = a0.defers → (∀ t, (∀ (j : Nat) o, j < k → ops[j]? = some o → o.dst ≠ some t) → a.tmps.getD t undef = a0.tmps.getD t undef) →
      (∀ (j : Nat) o d, j < k → ops[j]? = some o → o.dst = some d → Γ j w (a.tmps.getD d undef)) → I w → wpList P ops Q (ops.toList.drop k) a w) :
    ∀ (fuel : Nat) (listed : Array Bool) (a : Act) (w : World), KeptGu ops Γ I n k a0 listed a w → ops.size ≤ up listed + fuel → wpAny P .any ops Q fuel listed a w := by
  have hks : k < ops.size := by
    simp only [guardB, Bool.and_eq_true, decide_eq_true_eq] at hf
    exact hf.1.1
  have notall : ∀ (listed : Array Bool) (a : Act) (w : World), KeptGu ops Γ I n k a0 listed a w → up listed = ops.size → False := by
    intro listed a w hk hu
    have := up_all (listed := listed) (by rw [hu, hk.size]) (i := k) (by rw [hk.size]; exact hks)
    rw [hk.none k (Nat.le_refl _)] at this
    cases this
  have nostop : ∀ (listed : Array Bool) (a : Act) (w : World), KeptGu ops Γ I n k a0 listed a w → Region.ready .any ops listed = [] → False := by
    intro listed a w hk hr
    have hall : ∀ j, j < ops.size → listed.getD j false = true := by
      intro j
      induction j using Nat.strongRecOn with
      | ind j ih =>
        intro hj
        obtain ⟨o, ho⟩ : ∃ o, ops[j]? = some o := ⟨_, Array.getElem?_eq_getElem hj⟩
        cases hg : listed.getD j false
        · have hm : j ∈ Region.ready .any ops listed := by
            refine mem_ready.2 ⟨?_, o, ho, fun e he hb => ?_⟩
            · have hj2 : j < listed.size := by rw [hk.size]; exact hj
              simpa [hj2] using hg
            · have := (guardB_at hf ho).1 e he hb
              exact ih e.on this (by omega)
          rw [hr] at hm
          cases hm
        · rfl
    have := hall k hks
    rw [hk.none k (Nat.le_refl _)] at this
    cases this
  intro fuel
  induction fuel with
  | zero =>
    intro listed a w hk hle
    exact (notall listed a w hk (by have := up_le listed; have := hk.size; omega)).elim
  | succ fuel ih =>
    intro listed a w hk hle
    refine ⟨fun hr => (nostop listed a w hk hr).elim, fun i hi => ?_⟩
    obtain ⟨h0, o, ho, hall⟩ := mem_ready.1 hi
    obtain ⟨hu, hil⟩ := up_set h0
    obtain ⟨hlt, hd, htail⟩ := guardB_at hf ho
    rcases Nat.lt_trichotomy i k with hik | hik | hik
    · obtain ⟨hg, hd⟩ := hd hik
      have go : ∀ v w', Γ i w' v → (∀ l u, Γ l w u → Γ l w' u) → I w' → wpAny P .any ops Q fuel (listed.setIfInBounds i true) (a.put o.dst v) w' := by
        intro v w' hv hR hI
        refine ih _ _ _ ⟨by simpa using hk.size, by rw [put_size]; exact hk.len, by rw [put_defers']; exact hk.defers, fun t ht => ?_, fun j hj => ?_, fun j hl l hl2 => ?_, hI, fun j oj d hjk hj hdj hl => ?_⟩ (by omega)
        · rw [put_other a v (ht i o hik ho)]
          exact hk.keep t ht
        · rw [getD_set_ne (listed := listed) false (by omega)]
          exact hk.none j hj
        · by_cases hji : j = i
          · subst hji
            obtain ⟨o', ho', e, he, heq, hb⟩ := depsOf_spec hl2
            obtain rfl : o = o' := Option.some.inj (ho.symm.trans ho')
            rw [← heq, getD_set_ne (listed := listed) false (by have := hlt e he hb; omega)]
            exact hall e he hb
          · rw [getD_set_ne (listed := listed) false (Ne.symm hji)] at hl
            have := hk.closed j hl l hl2
            by_cases hli : l = i
            · subst hli
              simp [hil]
            · rw [getD_set_ne (listed := listed) false (Ne.symm hli)]
              exact this
        · by_cases hji : j = i
          · subst hji
            obtain rfl : o = oj := Option.some.inj (ho.symm.trans hj)
            rw [hdj, put_own a v (hd d hdj).1 hk.len]
            exact hv
          · have hne : o.dst ≠ some d := fun e => hji ((hd d e).2 j oj hjk hj hdj)
            rw [put_other a v hne]
            refine hR j _ (hk.slots j oj d hjk hj hdj ?_)
            rw [← getD_set_ne (listed := listed) false (Ne.symm hji)]
            exact hl
      have hw : Region.wanted o (yielded ops a.tmps) = runsB V o := wanted_runs hg hk.len (fun g og d hgd hog hdd => by
        obtain ⟨o', ho', e, he, heq, hb⟩ := depsOf_spec hgd
        obtain rfl : o = o' := Option.some.inj (ho.symm.trans ho')
        have h1 := hlt e he hb
        rw [heq] at h1
        have h2 := hall e he hb
        rw [heq] at h2
        exact ⟨(((guardB_at hf hog).2.1 (by omega)).2 d hdd).1, fun x hx => hV g w _ x (hk.slots g og d (by omega) hog hdd h2) hx⟩)
      unfold wpOp
      simp only [ho]
      cases hr : runsB V o with
      | true =>
        rw [if_pos (hw.trans hr)]
        left
        refine hop i o hik ho hr a w _ hk.keep (fun p hp => ?_) hk.inv go
        obtain ⟨⟨e, he, hep, hb⟩, oj, hoj, hdj⟩ := needOf_spec ho hp
        exact hk.slots p.1 oj p.2 (by have := hlt e he hb; omega) hoj hdj (by rw [← hep]; exact hall e he hb)
      | false =>
        rw [if_neg (by rw [hw, hr]; simp)]
        exact go undef w (hskip i o hik ho hr w) (fun _ _ h => h) hk.inv
    · subst hik
      have hdone : ∀ j, j < i → listed.getD j false = true := by
        have := (guardB_all hf (fun j => listed.getD j false = true ∨ j = i) (fun j l hj hl => ?_) (.inr rfl)).2
        · intro j hj
          rcases this j hj with h | h
          · exact h
          · omega
        · rcases hj with hj | rfl
          · exact .inl (hk.closed j hj l hl)
          · obtain ⟨o', ho', e, he, heq, hb⟩ := depsOf_spec hl
            obtain rfl : o = o' := Option.some.inj (ho.symm.trans ho')
            exact .inl (heq ▸ hall e he hb)
      have hw := hend a w hk.len hk.defers hk.keep (fun j oj d hjk hj hdj => hk.slots j oj d hjk hj hdj (hdone j hjk)) hk.inv
      have hup : up listed ≤ i := by
        have h1 : up listed = (listed.toList.take i).count true + (listed.toList.drop i).count true := by
          rw [up, ← List.count_append, List.take_append_drop]
        have h2 : (listed.toList.drop i).count true = 0 := by
          rw [List.count_eq_zero]
          intro hm
          obtain ⟨q, hq, he⟩ := List.getElem_of_mem hm
          simp at hq he
          have := hk.none (i + q) (by omega)
          simp at this
          rw [Array.getElem?_eq_getElem (by omega)] at this
          simp [he] at this
        have h3 := List.count_le_length (a := true) (l := listed.toList.take i)
        simp at h3
        omega
      have T := wpAny_gtail (P := P) (Q := Q) hf (fuel + 1) i listed a w (Nat.le_refl _) (by omega) hk.size (fun j hj => Iff.intro (fun h => (by
        rcases Nat.lt_or_ge j i with h2 | h2
        · exact h2
        · rw [hk.none j h2] at h
          cases h)) (fun h => hdone j h)) (by omega) hw
      exact T.2 i hi
    · exfalso
      obtain ⟨o', ho', e, he, heq, hb⟩ := depsOf_spec (htail hik)
      obtain rfl : o = o' := Option.some.inj (ho.symm.trans ho')
      have := hall e he hb
      rw [heq, hk.none (i - 1) (by omega)] at this
      cases this

theorem wp_region_guard {id : Nat} {a : Act} {w : World} (hmx : P.follows .mixedOrders = true) (V : Nat → Option (Option Bool)) (k n : Nat) (L : List (Nat × Nat)) (R : List Oper) (hf : guardB ops V n k = true) (hL : dstsOf ops k = L) (hR : ops.toList.drop k = R) (Γ : Nat → World → Value → Prop) (I : World → Prop) (hn : a.tmps.size = n) (h0 : I { w with drawn := w.drawn + 1 })
    (hV : ∀ g w u x, Γ g w u → V g = some x → u = valOf x) (hskip : ∀ j o, j < k → ops[j]? = some o → runsB V o = false → ∀ w, Γ j w undef)
    (hop : ∀ (j : Nat) o, j < k → ops[j]? = some o → runsB V o = true → ∀ a' w K, (∀ t, (∀ p ∈ L, p.2 ≠ t) → a'.tmps.getD t undef = a.tmps.getD t undef) → (∀ p ∈ needOf ops j, Γ p.1 w (a'.tmps.getD p.2 undef)) → I w →
      (∀ v w', Γ j w' v → (∀ i u, Γ i w u → Γ i w' u) → I w' → K (a'.put o.dst v) w') → o.wp P a' w K Q)
    (hend : ∀ (f : Nat → Value) w', (∀ p ∈ L, Γ p.1 w' (f p.1)) → I w' → wpList P ops Q R (L.foldl (fun b p => b.put (some p.2) (f p.1)) a) w') : (Code.region id ops true).wp P Q a w := by
  subst hL
  subst hR
  have keepL : ∀ (a' : Act), (∀ t, (∀ (j : Nat) o, j < k → ops[j]? = some o → o.dst ≠ some t) → a'.tmps.getD t undef = a.tmps.getD t undef) → ∀ t, (∀ p ∈ dstsOf ops k, p.2 ≠ t) → a'.tmps.getD t undef = a.tmps.getD t undef := by
    intro a' h t ht
    refine h t (fun j o hj ho hd => ?_)
    exact ht (j, t) (dstsOf_mem.2 ⟨hj, o, ho, hd⟩) rfl
  have hfl : ∀ j, (Array.replicate ops.size false).getD j false = false := by
    intro j
    simp [Array.getElem?_replicate]
    split <;> simp
  refine wp_region_any hmx (wpAny_guard (V := V) (Γ := Γ) (I := I) (n := n) (a0 := a) hf hV hskip (fun j o hj ho hr a' w' K hk hnd hI hK => hop j o hj ho hr a' w' K (keepL a' hk) hnd hI hK) ?_ ops.size _ a _ ⟨by simp, hn, rfl, fun _ _ => rfl, fun i _ => hfl i, fun j hl => absurd hl (by rw [hfl j]; simp), h0, fun j o d _ _ _ hl => absurd hl (by rw [hfl j]; simp)⟩ (by omega))
  intro a' w' hsz hdf hk hs hI
  have hdst : ∀ p ∈ dstsOf ops k, Γ p.1 w' (a'.tmps.getD p.2 undef) ∧ p.2 < n := by
    intro p hp
    obtain ⟨h1, o, h2, h3⟩ := dstsOf_mem.1 hp
    exact ⟨hs p.1 o p.2 h1 h2 h3, (((guardB_at hf h2).2.1 h1).2 p.2 h3).1⟩
  obtain ⟨f, hfv⟩ : ∃ f : Nat → Value, ∀ p ∈ dstsOf ops k, f p.1 = a'.tmps.getD p.2 undef := by
    refine ⟨fun j => match (ops[j]?).bind (·.dst) with | some d => a'.tmps.getD d undef | none => undef, fun p hp => ?_⟩
    obtain ⟨_, o, h2, h3⟩ := dstsOf_mem.1 hp
    simp [h2, h3]
  have E := act_eqT hsz hdf (dstsOf ops k) f a hn rfl (fun p hp => ⟨(hdst p hp).2, (hfv p hp).symm⟩) (keepL a' hk)
  rw [E]
  exact hend f w' (fun p hp => by rw [hfv p hp]; exact (hdst p hp).1) hI
end

/-- What an operation leaves: a value; a Boolean that guards; nothing, for it was left out; something that holds on while nothing old is turned; anything. -/
inductive Fg where
  | val (v : Value)
  | bit (b : Bool)
  | skip
  | pr (f : World → Value → Prop) (h : ∀ w w' v, Below w.heap.size w w' → f w v → f w' v)
  | any
def Fg.holds : Fg → World → Value → Prop
  | .val u, _, v => v = u
  | .bit b, _, v => v = .bool b
  | .skip, _, v => v = undef
  | .pr f _, w, v => f w v
  | .any, _, _ => True
theorem Fg.on {w w' : World} (hb : Below w.heap.size w w') (f : Fg) (v : Value) (h : f.holds w v) : f.holds w' v := by
  cases f with
  | val u => exact h
  | bit b => exact h
  | skip => exact h
  | pr f k => exact k w w' v hb h
  | any => trivial
def Fg.look : Fg → Option (Option Bool)
  | .bit b => some (some b)
  | .skip => some none
  | _ => none
def Fg.free : Fg → Bool
  | .skip => true
  | .any => true
  | _ => false
/-- What is left out is told as left out. -/
def skipB (ops : Array Oper) (F : List Fg) (k : Nat) : Bool :=
  (List.range k).all fun j => match ops[j]? with
    | none => true
    | some o => runsB (fun g => (F.getD g .any).look) o || (F.getD j .any).free
section
variable {P : Program} {ops : Array Oper} {Q : Exit → Act → World → Prop}
theorem wp_region_guards {id : Nat} {a : Act} {w : World} (hmx : P.follows .mixedOrders = true) (k n : Nat) (L : List (Nat × Nat)) (R : List Oper) (F : List Fg) (hf : guardB ops (fun g => (F.getD g .any).look) n k = true) (hsk : skipB ops F k = true) (hL : dstsOf ops k = L) (hR : ops.toList.drop k = R) (hn : a.tmps.size = n)
    (hop : ∀ (j : Nat) o, j < k → ops[j]? = some o → runsB (fun g => (F.getD g .any).look) o = true → ∀ a' v K, (∀ t, (∀ p ∈ L, p.2 ≠ t) → a'.tmps.getD t undef = a.tmps.getD t undef) → (∀ p ∈ needOf ops j, (F.getD p.1 .any).holds v (a'.tmps.getD p.2 undef)) → Below w.heap.size w v →
      (∀ u v', (F.getD j .any).holds v' u → Below v.heap.size v v' → K (a'.put o.dst u) v') → o.wp P a' v K Q)
    (hend : ∀ (f : Nat → Value) v, (∀ p ∈ L, (F.getD p.1 .any).holds v (f p.1)) → Below w.heap.size w v → wpList P ops Q R (L.foldl (fun b p => b.put (some p.2) (f p.1)) a) v) : (Code.region id ops true).wp P Q a w := by
  refine wp_region_guard hmx (fun g => (F.getD g .any).look) k n L R hf hL hR (fun j v u => (F.getD j .any).holds v u) (fun v => Below w.heap.size w v) hn ⟨rfl, rfl, rfl, Nat.le_refl _, fun _ _ => rfl⟩ ?_ ?_ ?_ (fun f v hf hB => hend f v hf hB)
  · intro g w u x hu hx
    cases hF : F.getD g .any <;> rw [hF] at hu hx <;> simp [Fg.look] at hx
    · subst hx
      exact hu
    · subst hx
      exact hu
  · intro j o hj ho hr w
    have h1 := List.all_eq_true.1 hsk j (List.mem_range.2 hj)
    rw [ho] at h1
    simp only [hr, Bool.false_or] at h1
    cases hF : F.getD j .any <;> rw [hF] at h1 <;> simp [Fg.free] at h1
    · rfl
    · trivial
  · intro j o hj ho hr a' v K hk hnd hB hK
    exact hop j o hj ho hr a' v K hk hnd hB (fun u v' hu hb => hK u v' hu (fun i x hx => Fg.on hb _ _ hx) (bthen hB hb))
theorem gds_of {j : Nat} {F : List Fg} {v : World} {a' : Act} (hnd : ∀ p ∈ needOf ops j, (F.getD p.1 .any).holds v (a'.tmps.getD p.2 undef)) (i t : Nat) (h : (needOf ops j).contains (i, t) = true) : (F.getD i .any).holds v (a'.eval (.tmp t)) :=
  hnd (i, t) (by simpa using h)
end
end Go.Proofs.Ytmfkpiclpkeemaa
