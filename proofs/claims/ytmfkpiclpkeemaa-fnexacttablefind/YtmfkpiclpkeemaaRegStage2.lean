/-
  A region that draws its order, with a chain of operations in forced order: what an operation left in its slot may change from one link of the chain to the next. Plain: any program.
-/
import Derived.Test.YtmfkpiclpkeemaaRegChain
namespace Go.Proofs.Ytmfkpiclpkeemaa
set_option maxRecDepth 100000
open Go.RowKit

section
variable {P : Program} {ops : Array Oper} {Q : Exit → Act → World → Prop}

/-- What stands while the region runs. -/
structure KeptT (ops : Array Oper) (Γ : Nat → Nat → World → Value → Prop) (ch : List Nat) (I : Nat → World → Prop) (n : Nat) (a0 : Act) (listed : Array Bool) (a : Act) (w : World) : Prop where
  size : listed.size = ops.size
  len : a.tmps.size = n
  defers : a.defers = a0.defers
  keep : ∀ t, (∀ (j : Nat) o, ops[j]? = some o → o.dst ≠ some t) → a.tmps.getD t undef = a0.tmps.getD t undef
  inv : ∃ m, (∀ (i j : Nat), ch[i]? = some j → (listed.getD j false = true ↔ i < m)) ∧ m ≤ ch.length ∧ I m w ∧ (∀ (j : Nat) o d, ops[j]? = some o → o.dst = some d → listed.getD j false = true → Γ j m w (a.tmps.getD d undef))

theorem wpAny_stage2 {Γ : Nat → Nat → World → Value → Prop} {out ch : List Nat} {I : Nat → World → Prop} {n : Nat} {a0 : Act} (hf : formB ops n out = true) (hch : chainB ops ch = true)
    (hop : ∀ (j : Nat) o, ops[j]? = some o → ∀ m a w K, (∀ t ∈ out, a.tmps.getD t undef = a0.tmps.getD t undef) → (∀ p ∈ needOf ops j, Γ p.1 m w (a.tmps.getD p.2 undef)) → (∀ i, ch[i]? = some j → i = m) → I m w →
      (∀ v w', Γ j (nextOf ch j m) w' v → (∀ i oi d, i ≠ j → ops[i]? = some oi → oi.dst = some d → Γ i m w (a.tmps.getD d undef) → Γ i (nextOf ch j m) w' (a.tmps.getD d undef)) → I (nextOf ch j m) w' → K (a.put o.dst v) w') → o.wp P a w K Q)
    (hend : ∀ a w, a.tmps.size = n → a.defers = a0.defers → (∀ t ∈ out, a.tmps.getD t undef = a0.tmps.getD t undef) → (∀ t, (∀ (j : Nat) o, ops[j]? = some o → o.dst ≠ some t) → a.tmps.getD t undef = a0.tmps.getD t undef) →
      (∀ (j : Nat) o d, ops[j]? = some o → o.dst = some d → Γ j ch.length w (a.tmps.getD d undef)) → I ch.length w → Q .normal a w) :
    ∀ (fuel : Nat) (listed : Array Bool) (a : Act) (w : World), KeptT ops Γ ch I n a0 listed a w → ops.size ≤ up listed + fuel → wpAny P .any ops Q fuel listed a w := by
  have fin : ∀ (listed : Array Bool) (a : Act) (w : World), KeptT ops Γ ch I n a0 listed a w → up listed = ops.size → Q .normal a w := by
    intro listed a w hk hu
    have hall : ∀ j, j < ops.size → listed.getD j false = true := fun j hj => up_all (by rw [hu, hk.size]) (by rw [hk.size]; exact hj)
    obtain ⟨m, hm, hml, hI, hsl⟩ := hk.inv
    have hme : m = ch.length := by
      rcases Nat.lt_or_ge m ch.length with h | h
      · obtain ⟨o, ho, _⟩ := chainB_at hch (List.getElem?_eq_getElem h)
        have := (hm m _ (List.getElem?_eq_getElem h)).1 (hall _ (Array.getElem?_eq_some_iff.1 ho).1)
        omega
      · omega
    subst hme
    refine hend a w hk.len hk.defers (fun t ht => hk.keep t (fun j oj hj hdj => ((formB_at hf hj).2.2 t hdj).2.1 ht)) hk.keep (fun j o d ho hd => hsl j o d ho hd ?_) hI
    exact hall j (Array.getElem?_eq_some_iff.1 ho).1
  intro fuel
  induction fuel with
  | zero =>
    intro listed a w hk hle
    have hu : up listed = ops.size := by have := up_le listed; have := hk.size; omega
    refine ⟨?_, fin listed a w hk hu⟩
    cases hr : Region.ready .any ops listed with
    | nil => rfl
    | cons i l =>
      have hm : i ∈ Region.ready .any ops listed := by rw [hr]; simp
      obtain ⟨h0, _⟩ := mem_ready.1 hm
      have := (up_set h0).1
      have h3 := up_le (listed.setIfInBounds i true)
      have h4 : (listed.setIfInBounds i true).size = listed.size := by simp
      have := hk.size
      omega
  | succ fuel ih =>
    intro listed a w hk hle
    refine ⟨fun hr => fin listed a w hk (some_ready hf hk.size hr), fun i hi => ?_⟩
    obtain ⟨h0, o, ho, hall⟩ := mem_ready.1 hi
    obtain ⟨hu, hil⟩ := up_set h0
    obtain ⟨hlt, hg, hd⟩ := formB_at hf ho
    obtain ⟨m, hm, hml, hI, hsl⟩ := hk.inv
    have hfalse : listed.getD i false = false := by simpa [hil] using h0
    have hnow : ∀ q, ch[q]? = some i → q = m := by
      intro q hq
      have h1 : ¬ q < m := fun h => by rw [(hm q i hq).2 h] at hfalse; cases hfalse
      cases q with
      | zero => omega
      | succ q' =>
        obtain ⟨o', ho', hprev⟩ := chainB_at hch hq
        obtain rfl : o = o' := Option.some.inj (ho.symm.trans ho')
        obtain ⟨e, he, hb, hce⟩ := hprev q' rfl
        have := (hm q' e.on hce).1 (hall e he hb)
        omega
    unfold wpOp
    simp only [ho]
    rw [if_pos (by simp [Region.wanted, hg])]
    left
    refine hop i o ho m a w _ (fun t ht => hk.keep t (fun j oj hj hdj => ?_)) (fun p hp => ?_) hnow hI ?_
    · exact ((formB_at hf hj).2.2 t hdj).2.1 ht
    · obtain ⟨⟨e, he, hep, hb⟩, oj, hoj, hdj⟩ := needOf_spec ho hp
      exact hsl p.1 oj p.2 hoj hdj (by rw [← hep]; exact hall e he hb)
    · intro v w' hv hR hI'
      refine ih _ _ _ ⟨by simpa using hk.size, by rw [put_size]; exact hk.len, by rw [put_defers']; exact hk.defers, fun t ht => ?_, ⟨nextOf ch i m, ?_, ?_, hI', fun j oj d hj hdj hl => ?_⟩⟩ (by omega)
      · rw [put_other a v (ht i o ho)]
        exact hk.keep t ht
      · intro q j hq
        by_cases hji : j = i
        · subst hji
          have hqm := hnow q hq
          have hc : j ∈ ch := List.mem_of_getElem? hq
          rw [getD_set_own hil]
          simp [nextOf, hc, hqm]
        · rw [getD_set_ne (listed := listed) false (Ne.symm hji), hm q j hq]
          unfold nextOf
          split
          · rename_i hc
            obtain ⟨q', hq'⟩ := List.mem_iff_getElem?.1 (show i ∈ ch by simpa using hc)
            have h1 := hnow q' hq'
            have h2 : q ≠ m := fun e => hji (Option.some.inj ((e ▸ hq).symm.trans (h1 ▸ hq')))
            omega
          · exact Iff.rfl
      · unfold nextOf
        split
        · rename_i hc
          obtain ⟨q', hq'⟩ := List.mem_iff_getElem?.1 (show i ∈ ch by simpa using hc)
          have h1 := hnow q' hq'
          have := (List.getElem?_eq_some_iff.1 hq').1
          omega
        · exact hml
      · by_cases hji : j = i
        · subst hji
          obtain rfl : o = oj := Option.some.inj (ho.symm.trans hj)
          rw [hdj, put_own a v (hd d hdj).1 hk.len]
          exact hv
        · have hne : o.dst ≠ some d := fun e => hji ((hd d e).2.2 j oj hj hdj)
          rw [put_other a v hne]
          refine hR j oj d hji hj hdj (hsl j oj d hj hdj ?_)
          rw [← getD_set_ne (listed := listed) false (Ne.symm hji)]
          exact hl

theorem wp_region_stage2 {id : Nat} {a : Act} {w : World} (hmx : P.follows .mixedOrders = true) (Γ : Nat → Nat → World → Value → Prop) (out ch : List Nat) (I : Nat → World → Prop) (n : Nat) (hf : formB ops n out = true) (hch : chainB ops ch = true)
    (hn : a.tmps.size = n) (h0 : I 0 { w with drawn := w.drawn + 1 })
    (hop : ∀ (j : Nat) o, ops[j]? = some o → ∀ m a' w K, (∀ t ∈ out, a'.tmps.getD t undef = a.tmps.getD t undef) → (∀ p ∈ needOf ops j, Γ p.1 m w (a'.tmps.getD p.2 undef)) → (∀ i, ch[i]? = some j → i = m) → I m w →
      (∀ v w', Γ j (nextOf ch j m) w' v → (∀ i oi d, i ≠ j → ops[i]? = some oi → oi.dst = some d → Γ i m w (a'.tmps.getD d undef) → Γ i (nextOf ch j m) w' (a'.tmps.getD d undef)) → I (nextOf ch j m) w' → K (a'.put o.dst v) w') → o.wp P a' w K Q)
    (hend : ∀ a' w', a'.tmps.size = n → a'.defers = a.defers → (∀ t ∈ out, a'.tmps.getD t undef = a.tmps.getD t undef) → (∀ t, (∀ (j : Nat) o, ops[j]? = some o → o.dst ≠ some t) → a'.tmps.getD t undef = a.tmps.getD t undef) →
      (∀ (j : Nat) o d, ops[j]? = some o → o.dst = some d → Γ j ch.length w' (a'.tmps.getD d undef)) → I ch.length w' → Q .normal a' w') : (Code.region id ops true).wp P Q a w := by
  have hfl : ∀ j, (Array.replicate ops.size false).getD j false = false := by
    intro j
    simp [Array.getElem?_replicate]
    split <;> simp
  refine wp_region_any hmx (wpAny_stage2 (out := out) (ch := ch) (I := I) (Γ := Γ) (n := n) (a0 := a) hf hch hop hend ops.size _ a _ ⟨by simp, hn, rfl, fun _ _ => rfl, ⟨0, fun i j _ => ?_, Nat.zero_le _, h0, fun j o d _ _ hl => ?_⟩⟩ (by omega))
  · rw [hfl j]
    simp
  · rw [hfl j] at hl
    cases hl
end
end Go.Proofs.Ytmfkpiclpkeemaa
