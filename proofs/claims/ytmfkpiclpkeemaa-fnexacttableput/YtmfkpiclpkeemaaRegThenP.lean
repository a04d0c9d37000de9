/-
  A region that draws its order, as in the text RegThen, one of the first operations of which (p) may turn a row: what stands is said for the time ahead of it and behind it. Plain: any program.
-/
import Derived.Test.YtmfkpiclpkeemaaRegThen
namespace Go.Proofs.Ytmfkpiclpkeemaa
set_option maxRecDepth 100000
open Go.RowKit

section
variable {P : Program} {ops : Array Oper} {Q : Exit → Act → World → Prop}

/-- What stands while the first operations run. -/
structure KeptP (ops : Array Oper) (Γ : Nat → Bool → World → Value → Prop) (I : Bool → World → Prop) (p n k : Nat) (a0 : Act) (listed : Array Bool) (a : Act) (w : World) : Prop where
  size : listed.size = ops.size
  len : a.tmps.size = n
  defers : a.defers = a0.defers
  keep : ∀ t, (∀ (j : Nat) o, j < k → ops[j]? = some o → o.dst ≠ some t) → a.tmps.getD t undef = a0.tmps.getD t undef
  none : ∀ i, k ≤ i → listed.getD i false = false
  closed : ∀ j, listed.getD j false = true → ∀ i ∈ depsOf ops j, listed.getD i false = true
  inv : I (listed.getD p false) w
  slots : ∀ (j : Nat) o d, j < k → ops[j]? = some o → o.dst = some d → listed.getD j false = true → Γ j (listed.getD p false) w (a.tmps.getD d undef)

theorem wpAny_thenP {Γ : Nat → Bool → World → Value → Prop} {I : Bool → World → Prop} {p n k : Nat} {a0 : Act} (hf : thenB ops n k = true)
    (hpk : p < k)
    (hop : ∀ (j : Nat) o, j < k → j ≠ p → ops[j]? = some o → ∀ b a w K, ((markOf ops (p + 1) [p]).contains j = true → b = false) → (∀ t, (∀ (j : Nat) o, j < k → ops[j]? = some o → o.dst ≠ some t) → a.tmps.getD t undef = a0.tmps.getD t undef) → (∀ q ∈ needOf ops j, Γ q.1 b w (a.tmps.getD q.2 undef)) → I b w →
      (∀ v w', Γ j b w' v → (∀ i u, Γ i b w u → Γ i b w' u) → I b w' → K (a.put o.dst v) w') → o.wp P a w K Q)
    (hpp : ∀ o, ops[p]? = some o → ∀ a w K, (∀ t, (∀ (j : Nat) o, j < k → ops[j]? = some o → o.dst ≠ some t) → a.tmps.getD t undef = a0.tmps.getD t undef) → (∀ q ∈ needOf ops p, Γ q.1 false w (a.tmps.getD q.2 undef)) → I false w →
      (∀ v w', Γ p true w' v → (∀ i u, i ≠ p → Γ i false w u → Γ i true w' u) → I true w' → K (a.put o.dst v) w') → o.wp P a w K Q)
    (hend : ∀ a w, a.tmps.size = n → a.defers = a0.defers → (∀ t, (∀ (j : Nat) o, j < k → ops[j]? = some o → o.dst ≠ some t) → a.tmps.getD t undef = a0.tmps.getD t undef) →
      (∀ (j : Nat) o d, j < k → ops[j]? = some o → o.dst = some d → Γ j true w (a.tmps.getD d undef)) → I true w → wpList P ops Q (ops.toList.drop k) a w) :
    ∀ (fuel : Nat) (listed : Array Bool) (a : Act) (w : World), KeptP ops Γ I p n k a0 listed a w → ops.size ≤ up listed + fuel → wpAny P .any ops Q fuel listed a w := by
  have hks : k < ops.size := by
    simp only [thenB, Bool.and_eq_true, decide_eq_true_eq] at hf
    exact hf.1.1
  have notall : ∀ (listed : Array Bool) (a : Act) (w : World), KeptP ops Γ I p n k a0 listed a w → up listed = ops.size → False := by
    intro listed a w hk hu
    have := up_all (listed := listed) (by rw [hu, hk.size]) (i := k) (by rw [hk.size]; exact hks)
    rw [hk.none k (Nat.le_refl _)] at this
    cases this
  have nostop : ∀ (listed : Array Bool) (a : Act) (w : World), KeptP ops Γ I p n k a0 listed a w → Region.ready .any ops listed = [] → False := by
    intro listed a w hk hr
    have hall : ∀ j, j < ops.size → listed.getD j false = true := by
      intro j
      induction j using Nat.strongRecOn with
      | ind j ih =>
        intro hj
        obtain ⟨o, ho⟩ : ∃ o, ops[j]? = some o := ⟨_, Array.getElem?_eq_getElem hj⟩
        cases hg : listed.getD j false
        · have hm : j ∈ Region.ready .any ops listed := by
            refine mem_ready.2 ⟨?_, o, ho, fun e he hb => ?_⟩
            · have hj2 : j < listed.size := by rw [hk.size]; exact hj
              simpa [hj2] using hg
            · have := (thenB_at hf ho).1 e he hb
              exact ih e.on this (by omega)
          rw [hr] at hm
          cases hm
        · rfl
    have := hall k hks
    rw [hk.none k (Nat.le_refl _)] at this
    cases this
  intro fuel
  induction fuel with
  | zero =>
    intro listed a w hk hle
    exact (notall listed a w hk (by have := up_le listed; have := hk.size; omega)).elim
  | succ fuel ih =>
    intro listed a w hk hle
    refine ⟨fun hr => (nostop listed a w hk hr).elim, fun i hi => ?_⟩
    obtain ⟨h0, o, ho, hall⟩ := mem_ready.1 hi
    obtain ⟨hu, hil⟩ := up_set h0
    obtain ⟨hlt, hd, htail⟩ := thenB_at hf ho
    rcases Nat.lt_trichotomy i k with hik | hik | hik
    · obtain ⟨hg, hd⟩ := hd hik
      unfold wpOp
      simp only [ho]
      rw [if_pos (by simp [Region.wanted, hg])]
      left
      have hneed : ∀ q ∈ needOf ops i, Γ q.1 (listed.getD p false) w (a.tmps.getD q.2 undef) := fun q hq => by
        obtain ⟨⟨e, he, hep, hb⟩, oj, hoj, hdj⟩ := needOf_spec ho hq
        exact hk.slots q.1 oj q.2 (by have := hlt e he hb; omega) hoj hdj (by rw [← hep]; exact hall e he hb)
      have hnext : ∀ v w', Γ i ((listed.setIfInBounds i true).getD p false) w' v → (∀ j u, j ≠ i → Γ j (listed.getD p false) w u → Γ j ((listed.setIfInBounds i true).getD p false) w' u) → I ((listed.setIfInBounds i true).getD p false) w' → wpAny P .any ops Q fuel (listed.setIfInBounds i true) (a.put o.dst v) w' := by
        intro v w' hv hR hI
        refine ih _ _ _ ⟨by simpa using hk.size, by rw [put_size]; exact hk.len, by rw [put_defers']; exact hk.defers, fun t ht => ?_, fun j hj => ?_, fun j hl l hl2 => ?_, hI, fun j oj d hjk hj hdj hl => ?_⟩ (by omega)
        · rw [put_other a v (ht i o hik ho)]
          exact hk.keep t ht
        · rw [getD_set_ne (listed := listed) false (by omega)]
          exact hk.none j hj
        · by_cases hji : j = i
          · subst hji
            obtain ⟨o', ho', e, he, heq, hb⟩ := depsOf_spec hl2
            obtain rfl : o = o' := Option.some.inj (ho.symm.trans ho')
            rw [← heq, getD_set_ne (listed := listed) false (by have := hlt e he hb; omega)]
            exact hall e he hb
          · rw [getD_set_ne (listed := listed) false (Ne.symm hji)] at hl
            have := hk.closed j hl l hl2
            by_cases hli : l = i
            · subst hli
              simp [hil]
            · rw [getD_set_ne (listed := listed) false (Ne.symm hli)]
              exact this
        · by_cases hji : j = i
          · subst hji
            obtain rfl : o = oj := Option.some.inj (ho.symm.trans hj)
            rw [hdj, put_own a v (hd d hdj).1 hk.len]
            exact hv
          · have hne : o.dst ≠ some d := fun e => hji ((hd d e).2 j oj hjk hj hdj)
            rw [put_other a v hne]
            refine hR j _ hji (hk.slots j oj d hjk hj hdj ?_)
            rw [← getD_set_ne (listed := listed) false (Ne.symm hji)]
            exact hl
      by_cases hip : i = p
      · subst hip
        have e0 : listed.getD i false = false := by
          have h2 : i < listed.size := hil
          simpa [h2] using h0
        have e1 : (listed.setIfInBounds i true).getD i false = true := by simp [hil]
        rw [e0, e1] at hnext
        rw [e0] at hneed
        have hinv := hk.inv
        rw [e0] at hinv
        exact hpp o ho a w _ hk.keep hneed hinv (fun v w' hv hR hI => hnext v w' hv hR hI)
      · have e1 : (listed.setIfInBounds i true).getD p false = listed.getD p false := getD_set_ne (listed := listed) false hip
        rw [e1] at hnext
        refine hop i o hik hip ho _ a w _ (fun hc => ?_) hk.keep hneed hk.inv (fun v w' hv hR hI => hnext v w' hv (fun j u _ hu => hR j u hu) hI)
        cases hlp : listed.getD p false with
        | false => rfl
        | true =>
          exfalso
          have hS := markOf_spec (fun j => listed.getD j false = true) (fun j l hj hl => hk.closed j hj l hl) (p + 1) [p] (fun l hl => by simp only [List.mem_singleton] at hl; subst hl; exact hlp) i (by simpa using hc)
          have h2 : i < listed.size := hil
          have h3 : listed.getD i false = false := by simpa [h2] using h0
          rw [h3] at hS
          cases hS
    · subst hik
      have hdone : ∀ j, j < i → listed.getD j false = true := by
        have := (thenB_all hf (fun j => listed.getD j false = true ∨ j = i) (fun j l hj hl => ?_) (.inr rfl)).2
        · intro j hj
          rcases this j hj with h | h
          · exact h
          · omega
        · rcases hj with hj | rfl
          · exact .inl (hk.closed j hj l hl)
          · obtain ⟨o', ho', e, he, heq, hb⟩ := depsOf_spec hl
            obtain rfl : o = o' := Option.some.inj (ho.symm.trans ho')
            exact .inl (heq ▸ hall e he hb)
      have hpd : listed.getD p false = true := hdone p hpk
      have hw := hend a w hk.len hk.defers hk.keep (fun j oj d hjk hj hdj => by have := hk.slots j oj d hjk hj hdj (hdone j hjk); rwa [hpd] at this) (by have := hk.inv; rwa [hpd] at this)
      have hup : up listed ≤ i := by
        have h1 : up listed = (listed.toList.take i).count true + (listed.toList.drop i).count true := by
          rw [up, ← List.count_append, List.take_append_drop]
        have h2 : (listed.toList.drop i).count true = 0 := by
          rw [List.count_eq_zero]
          intro hm
          obtain ⟨q, hq, he⟩ := List.getElem_of_mem hm
          simp at hq he
          have := hk.none (i + q) (by omega)
          simp at this
          rw [Array.getElem?_eq_getElem (by omega)] at this
          simp [he] at this
        have h3 := List.count_le_length (a := true) (l := listed.toList.take i)
        simp at h3
        omega
      have T := wpAny_tail (P := P) (Q := Q) hf (fuel + 1) i listed a w (Nat.le_refl _) (by omega) hk.size (fun j hj => Iff.intro (fun h => (by
        rcases Nat.lt_or_ge j i with h2 | h2
        · exact h2
        · rw [hk.none j h2] at h
          cases h)) (fun h => hdone j h)) (by omega) hw
      exact T.2 i hi
    · exfalso
      obtain ⟨o', ho', e, he, heq, hb⟩ := depsOf_spec (htail hik)
      obtain rfl : o = o' := Option.some.inj (ho.symm.trans ho')
      have := hall e he hb
      rw [heq, hk.none (i - 1) (by omega)] at this
      cases this

/-- The region, at last: the first k operations by what each leaves, and then the frame with their values written and the rest of the list. -/
theorem wp_region_thenP {id : Nat} {a : Act} {w : World} (hmx : P.follows .mixedOrders = true) (k n : Nat) (L : List (Nat × Nat)) (R : List Oper) (hf : thenB ops n k = true) (hL : dstsOf ops k = L) (hR : ops.toList.drop k = R) (Γ : Nat → Bool → World → Value → Prop) (I : Bool → World → Prop) (p : Nat) (hpk : p < k) (hn : a.tmps.size = n) (h0 : I false { w with drawn := w.drawn + 1 })
    (hop : ∀ (j : Nat) o, j < k → j ≠ p → ops[j]? = some o → ∀ b a' w K, ((markOf ops (p + 1) [p]).contains j = true → b = false) → (∀ t, (∀ p ∈ L, p.2 ≠ t) → a'.tmps.getD t undef = a.tmps.getD t undef) → (∀ q ∈ needOf ops j, Γ q.1 b w (a'.tmps.getD q.2 undef)) → I b w →
      (∀ v w', Γ j b w' v → (∀ i u, Γ i b w u → Γ i b w' u) → I b w' → K (a'.put o.dst v) w') → o.wp P a' w K Q)
    (hpp : ∀ o, ops[p]? = some o → ∀ a' w K, (∀ t, (∀ p ∈ L, p.2 ≠ t) → a'.tmps.getD t undef = a.tmps.getD t undef) → (∀ q ∈ needOf ops p, Γ q.1 false w (a'.tmps.getD q.2 undef)) → I false w →
      (∀ v w', Γ p true w' v → (∀ i u, i ≠ p → Γ i false w u → Γ i true w' u) → I true w' → K (a'.put o.dst v) w') → o.wp P a' w K Q)
    (hend : ∀ (f : Nat → Value) w', (∀ q ∈ L, Γ q.1 true w' (f q.1)) → I true w' → wpList P ops Q R (L.foldl (fun b p => b.put (some p.2) (f p.1)) a) w') : (Code.region id ops true).wp P Q a w := by
  subst hL
  subst hR
  have keepL : ∀ (a' : Act), (∀ t, (∀ (j : Nat) o, j < k → ops[j]? = some o → o.dst ≠ some t) → a'.tmps.getD t undef = a.tmps.getD t undef) → ∀ t, (∀ p ∈ dstsOf ops k, p.2 ≠ t) → a'.tmps.getD t undef = a.tmps.getD t undef := by
    intro a' h t ht
    refine h t (fun j o hj ho hd => ?_)
    exact ht (j, t) (dstsOf_mem.2 ⟨hj, o, ho, hd⟩) rfl
  have hfl : ∀ j, (Array.replicate ops.size false).getD j false = false := by
    intro j
    simp [Array.getElem?_replicate]
    split <;> simp
  refine wp_region_any hmx (wpAny_thenP (Γ := Γ) (I := I) (p := p) (n := n) (a0 := a) hf hpk (fun j o hj hjp ho b a' w' K hc hk hnd hI hK => hop j o hj hjp ho b a' w' K hc (keepL a' hk) hnd hI hK) (fun o ho a' w' K hk hnd hI hK => hpp o ho a' w' K (keepL a' hk) hnd hI hK) ?_ ops.size _ a _ ⟨by simp, hn, rfl, fun _ _ => rfl, fun i _ => hfl i, fun j hl => absurd hl (by rw [hfl j]; simp), by rw [hfl p]; exact h0, fun j o d _ _ _ hl => absurd hl (by rw [hfl j]; simp)⟩ (by omega))
  intro a' w' hsz hdf hk hs hI
  have hdst : ∀ p ∈ dstsOf ops k, Γ p.1 true w' (a'.tmps.getD p.2 undef) ∧ p.2 < n := by
    intro p hp
    obtain ⟨h1, o, h2, h3⟩ := dstsOf_mem.1 hp
    exact ⟨hs p.1 o p.2 h1 h2 h3, (((thenB_at hf h2).2.1 h1).2 p.2 h3).1⟩
  obtain ⟨f, hfv⟩ : ∃ f : Nat → Value, ∀ p ∈ dstsOf ops k, f p.1 = a'.tmps.getD p.2 undef := by
    refine ⟨fun j => match (ops[j]?).bind (·.dst) with | some d => a'.tmps.getD d undef | none => undef, fun p hp => ?_⟩
    obtain ⟨_, o, h2, h3⟩ := dstsOf_mem.1 hp
    simp [h2, h3]
  have E := act_eqT hsz hdf (dstsOf ops k) f a hn rfl (fun p hp => ⟨(hdst p hp).2, (hfv p hp).symm⟩) (keepL a' hk)
  rw [E]
  exact hend f w' (fun p hp => by rw [hfv p hp]; exact (hdst p hp).1) hI
end
end Go.Proofs.Ytmfkpiclpkeemaa
