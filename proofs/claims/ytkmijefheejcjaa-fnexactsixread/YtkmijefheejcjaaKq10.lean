/-
  An IPv4 packet is read by the program: what fourOf answers. An IPv4 packet is read by the program: its checksum. A region that draws its order and holds a chain of operations, each of which waits for the one before it: whatever order is drawn, the chain's operations run in their order, so each finds what the one before it left. Plain: any program. A region that draws its order, with a chain of operations in forced order: what an operation left in its slot may change from one link of the chain to the next. Plain: any program. An IPv4 packet is read by the program. A region that draws its order, with a chain of operations in forced order: what an operation leaves may change from one link of the chain to the next. Plain: any program. FourBytes, in the model and in the program: its last region draws its order. An IPv4 packet is read by the program: where it is read. The region in which a law compares a variable with a new copy of its argument: it draws its order. For any struct, any copy, any comparison.
-/
import Derived.Test.YtkmijefheejcjaaKq08
import Derived.Test.YtkmijefheejcjaaKq09
namespace Go.Proofs.Ytkmijefheejcjaa
set_option maxRecDepth 100000
open Go.RowKit

/-- A packet is not read. -/
def FoNo (k : Int) (g : Nat) (w : World) (e : Ending) (w' : World) : Prop := e = .returned (.tuple #[.agg #[.int .i64 0, .int .i64 0, .int .i64 0, .int .i64 0, .int .i64 0, .int .i64 0, .int .i64 0, .int .i64 0, .int .i64 0, .int .i64 0, .int .i64 0, .int .i64 0, .int .i64 0, .int .i64 0, .int .i64 0, .int .i64 0, .int .i64 0, .slice none 0 0, .slice none 0 0], .int .i64 k]) ∧ w.grownBy w' (some g)
/-- A packet is read. -/
def FoYes (x : Fh) (os ds : List UInt8) (p q t g : Nat) (a : Addr) (n c : Nat) (bs : List UInt8) (w : World) (e : Ending) (w' : World) : Prop :=
  ∃ A c1 D d1, e = .returned (.tuple #[.agg #[.int .i64 x.dscp, .int .i64 x.ecn, .int .i64 x.id, .int .i64 x.flags, .int .i64 x.frag, .int .i64 x.ttl, .int .i64 x.proto, .int .i64 x.src.k, .int .i64 x.src.a, .int .i64 x.src.b, .int .i64 x.src.c, .int .i64 x.src.d, .int .i64 x.dst.k, .int .i64 x.dst.a, .int .i64 x.dst.b, .int .i64 x.dst.c, .int .i64 x.dst.d, .slice A p c1, .slice D q d1], .int .i64 0]) ∧ w'.ownsRow w.heap.size 5 1 (.slice A p c1) p (cellsOf os) ∧ w'.ownsRow w.heap.size 5 1 (.slice D q d1) q (cellsOf ds) ∧
    (∀ k, (Value.slice A p c1).ownBlock = some k → (Value.slice D q d1).ownBlock ≠ some k) ∧ Rp w' g (some a) n c bs t ∧ w.grownBy w' (some g)





end Go.Proofs.Ytkmijefheejcjaa

namespace Go.Proofs.Ytkmijefheejcjaa
set_option maxRecDepth 100000
open Go.RowKit



end Go.Proofs.Ytkmijefheejcjaa

namespace Go.Proofs.Ytkmijefheejcjaa
set_option maxRecDepth 100000
open Go.RowKit

section
variable {P : Program} {ops : Array Oper} {Q : Exit → Act → World → Prop}

/-- Each operation of the chain ch is there once and waits for the one before it. -/
def chainB (ops : Array Oper) (ch : List Nat) : Bool :=
  decide ch.Nodup && (List.range ch.length).all fun i => match ch[i]? with
    | none => true
    | some j => match ops[j]? with
      | none => false
      | some o => match i with
        | 0 => true
        | i' + 1 => o.after.toList.any fun e => Region.binds .any e && decide (ch[i']? = some e.on)
theorem chainB_at {ch : List Nat} (h : chainB ops ch = true) {i j : Nat} (hj : ch[i]? = some j) :
    ∃ o, ops[j]? = some o ∧ ∀ i', i = i' + 1 → ∃ e ∈ o.after, Region.binds .any e = true ∧ ch[i']? = some e.on := by
  have hi : i < ch.length := (List.getElem?_eq_some_iff.1 hj).1
  simp only [chainB, Bool.and_eq_true] at h
  have h1 := List.all_eq_true.1 h.2 i (List.mem_range.2 hi)
  rw [hj] at h1
  cases ho : ops[j]? with
  | none => simp [ho] at h1
  | some o =>
    refine ⟨o, rfl, ?_⟩
    rintro i' rfl
    simp only [ho] at h1
    obtain ⟨e, he, hp⟩ := List.any_eq_true.1 h1
    simp only [Bool.and_eq_true, decide_eq_true_eq] at hp
    exact ⟨e, by simpa using he, hp.1, hp.2⟩
theorem chainB_once {ch : List Nat} (h : chainB ops ch = true) {i i' j : Nat} (hj : ch[i]? = some j) (hj' : ch[i']? = some j) : i = i' := by
  simp only [chainB, Bool.and_eq_true, decide_eq_true_eq] at h
  exact (List.getElem?_inj (List.getElem?_eq_some_iff.1 hj).1 h.1).1 (hj.trans hj'.symm)

/-- The chain's step at operation j, when m of it are done. -/
def nextOf (ch : List Nat) (j m : Nat) : Nat := if ch.contains j then m + 1 else m

/-- What stands while the region runs. -/
structure KeptC (ops : Array Oper) (Γ : Nat → World → Value → Prop) (ch : List Nat) (I : Nat → World → Prop) (n : Nat) (a0 : Act) (listed : Array Bool) (a : Act) (w : World) : Prop where
  size : listed.size = ops.size
  len : a.tmps.size = n
  defers : a.defers = a0.defers
  keep : ∀ t, (∀ (j : Nat) o, ops[j]? = some o → o.dst ≠ some t) → a.tmps.getD t undef = a0.tmps.getD t undef
  inv : ∃ m, (∀ (i j : Nat), ch[i]? = some j → (listed.getD j false = true ↔ i < m)) ∧ m ≤ ch.length ∧ I m w
  slots : ∀ (j : Nat) o d, ops[j]? = some o → o.dst = some d → listed.getD j false = true → Γ j w (a.tmps.getD d undef)

theorem getD_set_own {listed : Array Bool} {i : Nat} (h : i < listed.size) (d : Bool) : (listed.setIfInBounds i true).getD i d = true := by simp [h]

theorem wpAny_chain {Γ : Nat → World → Value → Prop} {out ch : List Nat} {I : Nat → World → Prop} {R : World → World → Prop} {n : Nat} {a0 : Act} (hf : formB ops n out = true) (hch : chainB ops ch = true)
    (hΓ : ∀ j w w' v, R w w' → Γ j w v → Γ j w' v)
    (hop : ∀ (j : Nat) o, ops[j]? = some o → ∀ m a w K, (∀ t ∈ out, a.tmps.getD t undef = a0.tmps.getD t undef) → (∀ p ∈ needOf ops j, Γ p.1 w (a.tmps.getD p.2 undef)) → (∀ i, ch[i]? = some j → i = m) → I m w →
      (∀ v w', Γ j w' v → R w w' → I (nextOf ch j m) w' → K (a.put o.dst v) w') → o.wp P a w K Q)
    (hend : ∀ a w, a.tmps.size = n → a.defers = a0.defers → (∀ t ∈ out, a.tmps.getD t undef = a0.tmps.getD t undef) → (∀ t, (∀ (j : Nat) o, ops[j]? = some o → o.dst ≠ some t) → a.tmps.getD t undef = a0.tmps.getD t undef) →
      (∀ (j : Nat) o d, ops[j]? = some o → o.dst = some d → Γ j w (a.tmps.getD d undef)) → I ch.length w → Q .normal a w) :
    ∀ (fuel : Nat) (listed : Array Bool) (a : Act) (w : World), KeptC ops Γ ch I n a0 listed a w → ops.size ≤ up listed + fuel → wpAny P .any ops Q fuel listed a w := by
  have fin : ∀ (listed : Array Bool) (a : Act) (w : World), KeptC ops Γ ch I n a0 listed a w → up listed = ops.size → Q .normal a w := by
    intro listed a w hk hu
    have hall : ∀ j, j < ops.size → listed.getD j false = true := fun j hj => up_all (by rw [hu, hk.size]) (by rw [hk.size]; exact hj)
    obtain ⟨m, hm, hml, hI⟩ := hk.inv
    have hme : m = ch.length := by
      rcases Nat.lt_or_ge m ch.length with h | h
      · obtain ⟨o, ho, _⟩ := chainB_at hch (List.getElem?_eq_getElem h)
        have := (hm m _ (List.getElem?_eq_getElem h)).1 (hall _ (Array.getElem?_eq_some_iff.1 ho).1)
        omega
      · omega
    subst hme
    refine hend a w hk.len hk.defers (fun t ht => hk.keep t (fun j oj hj hdj => ((formB_at hf hj).2.2 t hdj).2.1 ht)) hk.keep (fun j o d ho hd => hk.slots j o d ho hd ?_) hI
    exact hall j (Array.getElem?_eq_some_iff.1 ho).1
  intro fuel
  induction fuel with
  | zero =>
    intro listed a w hk hle
    have hu : up listed = ops.size := by have := up_le listed; have := hk.size; omega
    refine ⟨?_, fin listed a w hk hu⟩
    cases hr : Region.ready .any ops listed with
    | nil => rfl
    | cons i l =>
      have hm : i ∈ Region.ready .any ops listed := by rw [hr]; simp
      obtain ⟨h0, _⟩ := mem_ready.1 hm
      have := (up_set h0).1
      have h3 := up_le (listed.setIfInBounds i true)
      have h4 : (listed.setIfInBounds i true).size = listed.size := by simp
      have := hk.size
      omega
  | succ fuel ih =>
    intro listed a w hk hle
    refine ⟨fun hr => fin listed a w hk (some_ready hf hk.size hr), fun i hi => ?_⟩
    obtain ⟨h0, o, ho, hall⟩ := mem_ready.1 hi
    obtain ⟨hu, hil⟩ := up_set h0
    obtain ⟨hlt, hg, hd⟩ := formB_at hf ho
    obtain ⟨m, hm, hml, hI⟩ := hk.inv
    have hfalse : listed.getD i false = false := by simpa [hil] using h0
    have hnow : ∀ q, ch[q]? = some i → q = m := by
      intro q hq
      have h1 : ¬ q < m := fun h => by rw [(hm q i hq).2 h] at hfalse; cases hfalse
      cases q with
      | zero => omega
      | succ q' =>
        obtain ⟨o', ho', hprev⟩ := chainB_at hch hq
        obtain rfl : o = o' := Option.some.inj (ho.symm.trans ho')
        obtain ⟨e, he, hb, hce⟩ := hprev q' rfl
        have := (hm q' e.on hce).1 (hall e he hb)
        omega
    unfold wpOp
    simp only [ho]
    rw [if_pos (by simp [Region.wanted, hg])]
    left
    refine hop i o ho m a w _ (fun t ht => hk.keep t (fun j oj hj hdj => ?_)) (fun p hp => ?_) hnow hI ?_
    · exact ((formB_at hf hj).2.2 t hdj).2.1 ht
    · obtain ⟨⟨e, he, hep, hb⟩, oj, hoj, hdj⟩ := needOf_spec ho hp
      exact hk.slots p.1 oj p.2 hoj hdj (by rw [← hep]; exact hall e he hb)
    · intro v w' hv hR hI'
      refine ih _ _ _ ⟨by simpa using hk.size, by rw [put_size]; exact hk.len, by rw [put_defers']; exact hk.defers, fun t ht => ?_, ⟨nextOf ch i m, ?_, ?_, hI'⟩, fun j oj d hj hdj hl => ?_⟩ (by omega)
      · rw [put_other a v (ht i o ho)]
        exact hk.keep t ht
      · intro q j hq
        by_cases hji : j = i
        · subst hji
          have hqm := hnow q hq
          have hc : j ∈ ch := List.mem_of_getElem? hq
          rw [getD_set_own hil]
          simp [nextOf, hc, hqm]
        · rw [getD_set_ne (listed := listed) false (Ne.symm hji), hm q j hq]
          unfold nextOf
          split
          · rename_i hc
            obtain ⟨q', hq'⟩ := List.mem_iff_getElem?.1 (show i ∈ ch by simpa using hc)
            have h1 := hnow q' hq'
            have h2 : q ≠ m := fun e => hji (Option.some.inj ((e ▸ hq).symm.trans (h1 ▸ hq')))
            omega
          · exact Iff.rfl
      · unfold nextOf
        split
        · rename_i hc
          obtain ⟨q', hq'⟩ := List.mem_iff_getElem?.1 (show i ∈ ch by simpa using hc)
          have h1 := hnow q' hq'
          have := (List.getElem?_eq_some_iff.1 hq').1
          omega
        · exact hml
      · by_cases hji : j = i
        · subst hji
          obtain rfl : o = oj := Option.some.inj (ho.symm.trans hj)
          rw [hdj, put_own a v (hd d hdj).1 hk.len]
          exact hv
        · have hne : o.dst ≠ some d := fun e => hji ((hd d e).2.2 j oj hj hdj)
          rw [put_other a v hne]
          refine hΓ j w w' _ hR (hk.slots j oj d hj hdj ?_)
          rw [← getD_set_ne (listed := listed) false (Ne.symm hji)]
          exact hl

theorem wp_region_chain {id : Nat} {a : Act} {w : World} (hmx : P.follows .mixedOrders = true) (Γ : Nat → World → Value → Prop) (out ch : List Nat) (I : Nat → World → Prop) (R : World → World → Prop) (n : Nat) (hf : formB ops n out = true) (hch : chainB ops ch = true)
    (hn : a.tmps.size = n) (h0 : I 0 { w with drawn := w.drawn + 1 }) (hΓ : ∀ j w w' v, R w w' → Γ j w v → Γ j w' v)
    (hop : ∀ (j : Nat) o, ops[j]? = some o → ∀ m a' w K, (∀ t ∈ out, a'.tmps.getD t undef = a.tmps.getD t undef) → (∀ p ∈ needOf ops j, Γ p.1 w (a'.tmps.getD p.2 undef)) → (∀ i, ch[i]? = some j → i = m) → I m w →
      (∀ v w', Γ j w' v → R w w' → I (nextOf ch j m) w' → K (a'.put o.dst v) w') → o.wp P a' w K Q)
    (hend : ∀ a' w', a'.tmps.size = n → a'.defers = a.defers → (∀ t ∈ out, a'.tmps.getD t undef = a.tmps.getD t undef) → (∀ t, (∀ (j : Nat) o, ops[j]? = some o → o.dst ≠ some t) → a'.tmps.getD t undef = a.tmps.getD t undef) →
      (∀ (j : Nat) o d, ops[j]? = some o → o.dst = some d → Γ j w' (a'.tmps.getD d undef)) → I ch.length w' → Q .normal a' w') : (Code.region id ops true).wp P Q a w := by
  have hfl : ∀ j, (Array.replicate ops.size false).getD j false = false := by
    intro j
    simp [Array.getElem?_replicate]
    split <;> simp
  refine wp_region_any hmx (wpAny_chain (out := out) (ch := ch) (I := I) (R := R) (Γ := Γ) (n := n) (a0 := a) hf hch hΓ hop hend ops.size _ a _ ⟨by simp, hn, rfl, fun _ _ => rfl, ⟨0, fun i j _ => ?_, Nat.zero_le _, h0⟩, fun j o d _ _ hl => ?_⟩ (by omega))
  · rw [hfl j]
    simp
  · rw [hfl j] at hl
    cases hl
end
end Go.Proofs.Ytkmijefheejcjaa

namespace Go.Proofs.Ytkmijefheejcjaa
set_option maxRecDepth 100000
open Go.RowKit

section
variable {P : Program} {ops : Array Oper} {Q : Exit → Act → World → Prop}

/-- What stands while the region runs. -/
structure KeptT (ops : Array Oper) (Γ : Nat → Nat → World → Value → Prop) (ch : List Nat) (I : Nat → World → Prop) (n : Nat) (a0 : Act) (listed : Array Bool) (a : Act) (w : World) : Prop where
  size : listed.size = ops.size
  len : a.tmps.size = n
  defers : a.defers = a0.defers
  keep : ∀ t, (∀ (j : Nat) o, ops[j]? = some o → o.dst ≠ some t) → a.tmps.getD t undef = a0.tmps.getD t undef
  inv : ∃ m, (∀ (i j : Nat), ch[i]? = some j → (listed.getD j false = true ↔ i < m)) ∧ m ≤ ch.length ∧ I m w ∧ (∀ (j : Nat) o d, ops[j]? = some o → o.dst = some d → listed.getD j false = true → Γ j m w (a.tmps.getD d undef))

theorem wpAny_stage2 {Γ : Nat → Nat → World → Value → Prop} {out ch : List Nat} {I : Nat → World → Prop} {n : Nat} {a0 : Act} (hf : formB ops n out = true) (hch : chainB ops ch = true)
    (hop : ∀ (j : Nat) o, ops[j]? = some o → ∀ m a w K, (∀ t ∈ out, a.tmps.getD t undef = a0.tmps.getD t undef) → (∀ p ∈ needOf ops j, Γ p.1 m w (a.tmps.getD p.2 undef)) → (∀ i, ch[i]? = some j → i = m) → I m w →
      (∀ v w', Γ j (nextOf ch j m) w' v → (∀ i oi d, i ≠ j → ops[i]? = some oi → oi.dst = some d → Γ i m w (a.tmps.getD d undef) → Γ i (nextOf ch j m) w' (a.tmps.getD d undef)) → I (nextOf ch j m) w' → K (a.put o.dst v) w') → o.wp P a w K Q)
    (hend : ∀ a w, a.tmps.size = n → a.defers = a0.defers → (∀ t ∈ out, a.tmps.getD t undef = a0.tmps.getD t undef) → (∀ t, (∀ (j : Nat) o, ops[j]? = some o → o.dst ≠ some t) → a.tmps.getD t undef = a0.tmps.getD t undef) →
      (∀ (j : Nat) o d, ops[j]? = some o → o.dst = some d → Γ j ch.length w (a.tmps.getD d undef)) → I ch.length w → Q .normal a w) :
    ∀ (fuel : Nat) (listed : Array Bool) (a : Act) (w : World), KeptT ops Γ ch I n a0 listed a w → ops.size ≤ up listed + fuel → wpAny P .any ops Q fuel listed a w := by
  have fin : ∀ (listed : Array Bool) (a : Act) (w : World), KeptT ops Γ ch I n a0 listed a w → up listed = ops.size → Q .normal a w := by
    intro listed a w hk hu
    have hall : ∀ j, j < ops.size → listed.getD j false = true := fun j hj => up_all (by rw [hu, hk.size]) (by rw [hk.size]; exact hj)
    obtain ⟨m, hm, hml, hI, hsl⟩ := hk.inv
    have hme : m = ch.length := by
      rcases Nat.lt_or_ge m ch.length with h | h
      · obtain ⟨o, ho, _⟩ := chainB_at hch (List.getElem?_eq_getElem h)
        have := (hm m _ (List.getElem?_eq_getElem h)).1 (hall _ (Array.getElem?_eq_some_iff.1 ho).1)
        omega
      · omega
    subst hme
    refine hend a w hk.len hk.defers (fun t ht => hk.keep t (fun j oj hj hdj => ((formB_at hf hj).2.2 t hdj).2.1 ht)) hk.keep (fun j o d ho hd => hsl j o d ho hd ?_) hI
    exact hall j (Array.getElem?_eq_some_iff.1 ho).1
  intro fuel
  induction fuel with
  | zero =>
    intro listed a w hk hle
    have hu : up listed = ops.size := by have := up_le listed; have := hk.size; omega
    refine ⟨?_, fin listed a w hk hu⟩
    cases hr : Region.ready .any ops listed with
    | nil => rfl
    | cons i l =>
      have hm : i ∈ Region.ready .any ops listed := by rw [hr]; simp
      obtain ⟨h0, _⟩ := mem_ready.1 hm
      have := (up_set h0).1
      have h3 := up_le (listed.setIfInBounds i true)
      have h4 : (listed.setIfInBounds i true).size = listed.size := by simp
      have := hk.size
      omega
  | succ fuel ih =>
    intro listed a w hk hle
    refine ⟨fun hr => fin listed a w hk (some_ready hf hk.size hr), fun i hi => ?_⟩
    obtain ⟨h0, o, ho, hall⟩ := mem_ready.1 hi
    obtain ⟨hu, hil⟩ := up_set h0
    obtain ⟨hlt, hg, hd⟩ := formB_at hf ho
    obtain ⟨m, hm, hml, hI, hsl⟩ := hk.inv
    have hfalse : listed.getD i false = false := by simpa [hil] using h0
    have hnow : ∀ q, ch[q]? = some i → q = m := by
      intro q hq
      have h1 : ¬ q < m := fun h => by rw [(hm q i hq).2 h] at hfalse; cases hfalse
      cases q with
      | zero => omega
      | succ q' =>
        obtain ⟨o', ho', hprev⟩ := chainB_at hch hq
        obtain rfl : o = o' := Option.some.inj (ho.symm.trans ho')
        obtain ⟨e, he, hb, hce⟩ := hprev q' rfl
        have := (hm q' e.on hce).1 (hall e he hb)
        omega
    unfold wpOp
    simp only [ho]
    rw [if_pos (by simp [Region.wanted, hg])]
    left
    refine hop i o ho m a w _ (fun t ht => hk.keep t (fun j oj hj hdj => ?_)) (fun p hp => ?_) hnow hI ?_
    · exact ((formB_at hf hj).2.2 t hdj).2.1 ht
    · obtain ⟨⟨e, he, hep, hb⟩, oj, hoj, hdj⟩ := needOf_spec ho hp
      exact hsl p.1 oj p.2 hoj hdj (by rw [← hep]; exact hall e he hb)
    · intro v w' hv hR hI'
      refine ih _ _ _ ⟨by simpa using hk.size, by rw [put_size]; exact hk.len, by rw [put_defers']; exact hk.defers, fun t ht => ?_, ⟨nextOf ch i m, ?_, ?_, hI', fun j oj d hj hdj hl => ?_⟩⟩ (by omega)
      · rw [put_other a v (ht i o ho)]
        exact hk.keep t ht
      · intro q j hq
        by_cases hji : j = i
        · subst hji
          have hqm := hnow q hq
          have hc : j ∈ ch := List.mem_of_getElem? hq
          rw [getD_set_own hil]
          simp [nextOf, hc, hqm]
        · rw [getD_set_ne (listed := listed) false (Ne.symm hji), hm q j hq]
          unfold nextOf
          split
          · rename_i hc
            obtain ⟨q', hq'⟩ := List.mem_iff_getElem?.1 (show i ∈ ch by simpa using hc)
            have h1 := hnow q' hq'
            have h2 : q ≠ m := fun e => hji (Option.some.inj ((e ▸ hq).symm.trans (h1 ▸ hq')))
            omega
          · exact Iff.rfl
      · unfold nextOf
        split
        · rename_i hc
          obtain ⟨q', hq'⟩ := List.mem_iff_getElem?.1 (show i ∈ ch by simpa using hc)
          have h1 := hnow q' hq'
          have := (List.getElem?_eq_some_iff.1 hq').1
          omega
        · exact hml
      · by_cases hji : j = i
        · subst hji
          obtain rfl : o = oj := Option.some.inj (ho.symm.trans hj)
          rw [hdj, put_own a v (hd d hdj).1 hk.len]
          exact hv
        · have hne : o.dst ≠ some d := fun e => hji ((hd d e).2.2 j oj hj hdj)
          rw [put_other a v hne]
          refine hR j oj d hji hj hdj (hsl j oj d hj hdj ?_)
          rw [← getD_set_ne (listed := listed) false (Ne.symm hji)]
          exact hl

theorem wp_region_stage2 {id : Nat} {a : Act} {w : World} (hmx : P.follows .mixedOrders = true) (Γ : Nat → Nat → World → Value → Prop) (out ch : List Nat) (I : Nat → World → Prop) (n : Nat) (hf : formB ops n out = true) (hch : chainB ops ch = true)
    (hn : a.tmps.size = n) (h0 : I 0 { w with drawn := w.drawn + 1 })
    (hop : ∀ (j : Nat) o, ops[j]? = some o → ∀ m a' w K, (∀ t ∈ out, a'.tmps.getD t undef = a.tmps.getD t undef) → (∀ p ∈ needOf ops j, Γ p.1 m w (a'.tmps.getD p.2 undef)) → (∀ i, ch[i]? = some j → i = m) → I m w →
      (∀ v w', Γ j (nextOf ch j m) w' v → (∀ i oi d, i ≠ j → ops[i]? = some oi → oi.dst = some d → Γ i m w (a'.tmps.getD d undef) → Γ i (nextOf ch j m) w' (a'.tmps.getD d undef)) → I (nextOf ch j m) w' → K (a'.put o.dst v) w') → o.wp P a' w K Q)
    (hend : ∀ a' w', a'.tmps.size = n → a'.defers = a.defers → (∀ t ∈ out, a'.tmps.getD t undef = a.tmps.getD t undef) → (∀ t, (∀ (j : Nat) o, ops[j]? = some o → o.dst ≠ some t) → a'.tmps.getD t undef = a.tmps.getD t undef) →
      (∀ (j : Nat) o d, ops[j]? = some o → o.dst = some d → Γ j ch.length w' (a'.tmps.getD d undef)) → I ch.length w' → Q .normal a' w') : (Code.region id ops true).wp P Q a w := by
  have hfl : ∀ j, (Array.replicate ops.size false).getD j false = false := by
    intro j
    simp [Array.getElem?_replicate]
    split <;> simp
  refine wp_region_any hmx (wpAny_stage2 (out := out) (ch := ch) (I := I) (Γ := Γ) (n := n) (a0 := a) hf hch hop hend ops.size _ a _ ⟨by simp, hn, rfl, fun _ _ => rfl, ⟨0, fun i j _ => ?_, Nat.zero_le _, h0, fun j o d _ _ hl => ?_⟩⟩ (by omega))
  · rw [hfl j]
    simp
  · rw [hfl j] at hl
    cases hl
end
end Go.Proofs.Ytkmijefheejcjaa

namespace Go.Proofs.Ytkmijefheejcjaa
set_option maxRecDepth 100000
open Go.RowKit

theorem K.resCell3 {fn : Func} {p u v : Tmp} {ty : TypeId} (h : fn.results = #[.cell p ty, .tmp u, .tmp v]) (tmps : Array Value) (P : Program) (w : World) (g : Nat) (cs : Array Value)
    (hp : tmps.getD p undef = .pointer (some ⟨g, 0, none⟩)) (hld : (loadVar ty ⟨g, 0, none⟩).run P w = .ok (.agg cs) w) :
    (results fn tmps).run P w = .ok (.tuple #[.agg cs, tmps.getD u undef, tmps.getD v undef]) w := by
  have hp' : tmps[p]?.getD undef = .pointer (some ⟨g, 0, none⟩) := by simpa using hp
  simp [results, h, hp', asAddr, hld]

section
variable {o : Oper} {a : Act} {w : World} {K : Act → World → Prop} {Q : Exit → Act → World → Prop}
theorem t_nil (t g : Nat) (ho : o.op = .nilCheck (.tmp t)) (ht : a.eval (.tmp t) = .pointer (some ⟨g, 0, none⟩)) (hK : K (a.put o.dst (.pointer (some ⟨g, 0, none⟩))) w) : o.wp Try.prog a w K Q := by
  unfold Oper.wp execOp
  simp only [ho, ht]
  go_simp
  exact hK
theorem t_fldR (t g : Nat) (ho : o.op = .fieldAddr 86 (.tmp t) 0) (ht : a.eval (.tmp t) = .pointer (some ⟨g, 0, none⟩)) (hK : K (a.put o.dst (.pointer (some ⟨g, 0, none⟩))) w) : o.wp Try.prog a w K Q := by
  unfold Oper.wp execOp
  simp only [ho, ht]
  go_simp
  exact hK
theorem t_left (t : Nat) (u : Value) (ts : Array TypeId) (ho : o.op = .call { callee := .value (.func 118), args := #[.tmp t], argTypes := ts }) (ht : a.eval (.tmp t) = u)
    (h : Calls Try.prog 118 #[u] w fun e w' => ∃ v, e = .returned v ∧ K (a.put o.dst v) w') : o.wp Try.prog a w K Q := by
  unfold Oper.wp execOp
  simp only [ho, resolve, List.map_toArray, List.map_cons, List.map_nil, ht, show ∀ f, a.eval (.func f) = .func (.func f) #[] #[] from fun _ => rfl]
  go_simp
  exact h.mono fun e w' ⟨u, he, hk⟩ => by subst he; exact hk
theorem t_take (t s : Nat) (u v : Value) (ts : Array TypeId) (ho : o.op = .call { callee := .value (.func 117), args := #[.tmp t, .tmp s], argTypes := ts }) (ht : a.eval (.tmp t) = u) (hs : a.eval (.tmp s) = v)
    (h : Calls Try.prog 117 #[u, v] w fun e w' => ∃ v, e = .returned v ∧ K (a.put o.dst v) w') : o.wp Try.prog a w K Q := by
  unfold Oper.wp execOp
  simp only [ho, resolve, List.map_toArray, List.map_cons, List.map_nil, ht, hs, show ∀ f, a.eval (.func f) = .func (.func f) #[] #[] from fun _ => rfl]
  go_simp
  exact h.mono fun e w' ⟨u, he, hk⟩ => by subst he; exact hk
theorem t_const (v : Value) (ho : o.op = .assign (.const v)) (hK : K (a.put o.dst v) w) : o.wp Try.prog a w K Q := by
  unfold Oper.wp execOp
  simp only [ho, show a.eval (.const v) = v from rfl]
  go_simp
  exact hK
end





end Go.Proofs.Ytkmijefheejcjaa

namespace Go.Proofs.Ytkmijefheejcjaa
set_option maxRecDepth 100000
open Go.RowKit

section
variable {P : Program} {ops : Array Oper} {Q : Exit → Act → World → Prop}

/-- What stands while the region runs. -/
structure KeptS (ops : Array Oper) (Γ : Nat → Nat → World → Value → Prop) (ch : List Nat) (I : Nat → World → Prop) (n : Nat) (a0 : Act) (listed : Array Bool) (a : Act) (w : World) : Prop where
  size : listed.size = ops.size
  len : a.tmps.size = n
  defers : a.defers = a0.defers
  keep : ∀ t, (∀ (j : Nat) o, ops[j]? = some o → o.dst ≠ some t) → a.tmps.getD t undef = a0.tmps.getD t undef
  inv : ∃ m, (∀ (i j : Nat), ch[i]? = some j → (listed.getD j false = true ↔ i < m)) ∧ m ≤ ch.length ∧ I m w ∧ (∀ (j : Nat) o d, ops[j]? = some o → o.dst = some d → listed.getD j false = true → Γ j m w (a.tmps.getD d undef))

theorem wpAny_stage {Γ : Nat → Nat → World → Value → Prop} {out ch : List Nat} {I : Nat → World → Prop} {n : Nat} {a0 : Act} (hf : formB ops n out = true) (hch : chainB ops ch = true)
    (hop : ∀ (j : Nat) o, ops[j]? = some o → ∀ m a w K, (∀ t ∈ out, a.tmps.getD t undef = a0.tmps.getD t undef) → (∀ p ∈ needOf ops j, Γ p.1 m w (a.tmps.getD p.2 undef)) → (∀ i, ch[i]? = some j → i = m) → I m w →
      (∀ v w', Γ j (nextOf ch j m) w' v → (∀ i u, i ≠ j → Γ i m w u → Γ i (nextOf ch j m) w' u) → I (nextOf ch j m) w' → K (a.put o.dst v) w') → o.wp P a w K Q)
    (hend : ∀ a w, a.tmps.size = n → a.defers = a0.defers → (∀ t ∈ out, a.tmps.getD t undef = a0.tmps.getD t undef) → (∀ t, (∀ (j : Nat) o, ops[j]? = some o → o.dst ≠ some t) → a.tmps.getD t undef = a0.tmps.getD t undef) →
      (∀ (j : Nat) o d, ops[j]? = some o → o.dst = some d → Γ j ch.length w (a.tmps.getD d undef)) → I ch.length w → Q .normal a w) :
    ∀ (fuel : Nat) (listed : Array Bool) (a : Act) (w : World), KeptS ops Γ ch I n a0 listed a w → ops.size ≤ up listed + fuel → wpAny P .any ops Q fuel listed a w := by
  have fin : ∀ (listed : Array Bool) (a : Act) (w : World), KeptS ops Γ ch I n a0 listed a w → up listed = ops.size → Q .normal a w := by
    intro listed a w hk hu
    have hall : ∀ j, j < ops.size → listed.getD j false = true := fun j hj => up_all (by rw [hu, hk.size]) (by rw [hk.size]; exact hj)
    obtain ⟨m, hm, hml, hI, hsl⟩ := hk.inv
    have hme : m = ch.length := by
      rcases Nat.lt_or_ge m ch.length with h | h
      · obtain ⟨o, ho, _⟩ := chainB_at hch (List.getElem?_eq_getElem h)
        have := (hm m _ (List.getElem?_eq_getElem h)).1 (hall _ (Array.getElem?_eq_some_iff.1 ho).1)
        omega
      · omega
    subst hme
    refine hend a w hk.len hk.defers (fun t ht => hk.keep t (fun j oj hj hdj => ((formB_at hf hj).2.2 t hdj).2.1 ht)) hk.keep (fun j o d ho hd => hsl j o d ho hd ?_) hI
    exact hall j (Array.getElem?_eq_some_iff.1 ho).1
  intro fuel
  induction fuel with
  | zero =>
    intro listed a w hk hle
    have hu : up listed = ops.size := by have := up_le listed; have := hk.size; omega
    refine ⟨?_, fin listed a w hk hu⟩
    cases hr : Region.ready .any ops listed with
    | nil => rfl
    | cons i l =>
      have hm : i ∈ Region.ready .any ops listed := by rw [hr]; simp
      obtain ⟨h0, _⟩ := mem_ready.1 hm
      have := (up_set h0).1
      have h3 := up_le (listed.setIfInBounds i true)
      have h4 : (listed.setIfInBounds i true).size = listed.size := by simp
      have := hk.size
      omega
  | succ fuel ih =>
    intro listed a w hk hle
    refine ⟨fun hr => fin listed a w hk (some_ready hf hk.size hr), fun i hi => ?_⟩
    obtain ⟨h0, o, ho, hall⟩ := mem_ready.1 hi
    obtain ⟨hu, hil⟩ := up_set h0
    obtain ⟨hlt, hg, hd⟩ := formB_at hf ho
    obtain ⟨m, hm, hml, hI, hsl⟩ := hk.inv
    have hfalse : listed.getD i false = false := by simpa [hil] using h0
    have hnow : ∀ q, ch[q]? = some i → q = m := by
      intro q hq
      have h1 : ¬ q < m := fun h => by rw [(hm q i hq).2 h] at hfalse; cases hfalse
      cases q with
      | zero => omega
      | succ q' =>
        obtain ⟨o', ho', hprev⟩ := chainB_at hch hq
        obtain rfl : o = o' := Option.some.inj (ho.symm.trans ho')
        obtain ⟨e, he, hb, hce⟩ := hprev q' rfl
        have := (hm q' e.on hce).1 (hall e he hb)
        omega
    unfold wpOp
    simp only [ho]
    rw [if_pos (by simp [Region.wanted, hg])]
    left
    refine hop i o ho m a w _ (fun t ht => hk.keep t (fun j oj hj hdj => ?_)) (fun p hp => ?_) hnow hI ?_
    · exact ((formB_at hf hj).2.2 t hdj).2.1 ht
    · obtain ⟨⟨e, he, hep, hb⟩, oj, hoj, hdj⟩ := needOf_spec ho hp
      exact hsl p.1 oj p.2 hoj hdj (by rw [← hep]; exact hall e he hb)
    · intro v w' hv hR hI'
      refine ih _ _ _ ⟨by simpa using hk.size, by rw [put_size]; exact hk.len, by rw [put_defers']; exact hk.defers, fun t ht => ?_, ⟨nextOf ch i m, ?_, ?_, hI', fun j oj d hj hdj hl => ?_⟩⟩ (by omega)
      · rw [put_other a v (ht i o ho)]
        exact hk.keep t ht
      · intro q j hq
        by_cases hji : j = i
        · subst hji
          have hqm := hnow q hq
          have hc : j ∈ ch := List.mem_of_getElem? hq
          rw [getD_set_own hil]
          simp [nextOf, hc, hqm]
        · rw [getD_set_ne (listed := listed) false (Ne.symm hji), hm q j hq]
          unfold nextOf
          split
          · rename_i hc
            obtain ⟨q', hq'⟩ := List.mem_iff_getElem?.1 (show i ∈ ch by simpa using hc)
            have h1 := hnow q' hq'
            have h2 : q ≠ m := fun e => hji (Option.some.inj ((e ▸ hq).symm.trans (h1 ▸ hq')))
            omega
          · exact Iff.rfl
      · unfold nextOf
        split
        · rename_i hc
          obtain ⟨q', hq'⟩ := List.mem_iff_getElem?.1 (show i ∈ ch by simpa using hc)
          have h1 := hnow q' hq'
          have := (List.getElem?_eq_some_iff.1 hq').1
          omega
        · exact hml
      · by_cases hji : j = i
        · subst hji
          obtain rfl : o = oj := Option.some.inj (ho.symm.trans hj)
          rw [hdj, put_own a v (hd d hdj).1 hk.len]
          exact hv
        · have hne : o.dst ≠ some d := fun e => hji ((hd d e).2.2 j oj hj hdj)
          rw [put_other a v hne]
          refine hR j _ hji (hsl j oj d hj hdj ?_)
          rw [← getD_set_ne (listed := listed) false (Ne.symm hji)]
          exact hl

theorem wp_region_stage {id : Nat} {a : Act} {w : World} (hmx : P.follows .mixedOrders = true) (Γ : Nat → Nat → World → Value → Prop) (out ch : List Nat) (I : Nat → World → Prop) (n : Nat) (hf : formB ops n out = true) (hch : chainB ops ch = true)
    (hn : a.tmps.size = n) (h0 : I 0 { w with drawn := w.drawn + 1 })
    (hop : ∀ (j : Nat) o, ops[j]? = some o → ∀ m a' w K, (∀ t ∈ out, a'.tmps.getD t undef = a.tmps.getD t undef) → (∀ p ∈ needOf ops j, Γ p.1 m w (a'.tmps.getD p.2 undef)) → (∀ i, ch[i]? = some j → i = m) → I m w →
      (∀ v w', Γ j (nextOf ch j m) w' v → (∀ i u, i ≠ j → Γ i m w u → Γ i (nextOf ch j m) w' u) → I (nextOf ch j m) w' → K (a'.put o.dst v) w') → o.wp P a' w K Q)
    (hend : ∀ a' w', a'.tmps.size = n → a'.defers = a.defers → (∀ t ∈ out, a'.tmps.getD t undef = a.tmps.getD t undef) → (∀ t, (∀ (j : Nat) o, ops[j]? = some o → o.dst ≠ some t) → a'.tmps.getD t undef = a.tmps.getD t undef) →
      (∀ (j : Nat) o d, ops[j]? = some o → o.dst = some d → Γ j ch.length w' (a'.tmps.getD d undef)) → I ch.length w' → Q .normal a' w') : (Code.region id ops true).wp P Q a w := by
  have hfl : ∀ j, (Array.replicate ops.size false).getD j false = false := by
    intro j
    simp [Array.getElem?_replicate]
    split <;> simp
  refine wp_region_any hmx (wpAny_stage (out := out) (ch := ch) (I := I) (Γ := Γ) (n := n) (a0 := a) hf hch hop hend ops.size _ a _ ⟨by simp, hn, rfl, fun _ _ => rfl, ⟨0, fun i j _ => ?_, Nat.zero_le _, h0, fun j o d _ _ hl => ?_⟩⟩ (by omega))
  · rw [hfl j]
    simp
  · rw [hfl j] at hl
    cases hl
end
end Go.Proofs.Ytkmijefheejcjaa

namespace Go.Proofs.Ytkmijefheejcjaa
set_option maxRecDepth 100000
open Go.RowKit

section
variable {o : Oper} {a : Act} {w : World} {K : Act → World → Prop} {Q : Exit → Act → World → Prop}
theorem t_loadB (t g j : Nat) (v : Value) (ho : o.op = .load 22 (.tmp t)) (ht : a.eval (.tmp t) = .pointer (some ⟨g, j, none⟩)) (hc : w.cell? ⟨g, j, none⟩ = some v) (hK : K (a.put o.dst v) w) : o.wp Try.prog a w K Q := by
  unfold Oper.wp execOp
  simp only [ho, ht]
  go_simp
  exact hK
theorem t_assign (t : Nat) (v : Value) (ho : o.op = .assign (.tmp t)) (ht : a.eval (.tmp t) = v) (hK : K (a.put o.dst v) w) : o.wp Try.prog a w K Q := by
  unfold Oper.wp execOp
  simp only [ho, ht]
  go_simp
  exact hK
theorem t_append (s x : Nat) (ho : o.op = .call { callee := .builtin .append, args := #[.tmp s, .tmp x], argTypes := #[22, 22] }) (base : Nat) (v : Value) (bs : List UInt8) (hs : a.eval (.tmp s) = v) (hown : w.ownsRow base 5 1 v bs.length (cellsOf bs))
    (B : Nat) (A : Option Addr) (m c : Nat) (ds : List UInt8) (hx : a.eval (.tmp x) = .slice A m c) (hm : ds.length = m) (hr : RB w B A ds) (hn : bs.length + ds.length ≤ 67108864) (hbase : base ≤ w.heap.size)
    (h : ∀ v' w', w'.ownsRow base 5 1 v' (bs ++ ds).length (cellsOf (bs ++ ds)) → w.grownBy w' v.ownBlock → K (a.put o.dst v') w') : o.wp Try.prog a w K Q := by
  obtain ⟨v', w', hrun, h2, h3, h4⟩ := run_append_b w o.type base v bs hown B A m c ds hm hr hn hbase
  unfold Oper.wp execOp
  simp only [ho, resolve, invoke, builtin, Sem.run_bind, Sem.run_pure, Result.andThen_ok, List.map_toArray, List.map_cons, List.map_nil, hs, hx, hrun]
  exact h v' w' h2 h3
end

def FBOut (x : Fh) (os bs : List UInt8) (w : World) (e : Ending) (w' : World) : Prop := ∃ A c, e = .returned (.slice A (x.bytes os bs).length c) ∧ w'.ownsRow w.heap.size 5 1 (.slice A (x.bytes os bs).length c) (x.bytes os bs).length (cellsOf (x.bytes os bs)) ∧ Below w.heap.size w w'
theorem fbOut_no {x : Fh} {os bs : List UInt8} (h : x.ok os.length bs.length = false) {w w' : World} (hb : Below w.heap.size w w') : FBOut x os bs w (.returned (.slice none 0 0)) w' := by
  have e : x.bytes os bs = [] := by simp [Fh.bytes, h]
  unfold FBOut
  rw [e]
  exact ⟨none, 0, rfl, ⟨rfl, .inl ⟨rfl, rfl⟩⟩, hb⟩

/-- What the operations leave: L is the number of the call that makes the head, P the link of the chain at which the bytes are appended. -/
def GFB (x : Fh) (A D : Option Addr) (n c m d g base L P : Nat) (s : Int) (hd all : List UInt8) (j k : Nat) (w : World) (v : Value) : Prop :=
  if j = L then ∃ A2 c2, v = .slice A2 (20 + n) c2 ∧ (k ≤ P → w.ownsRow base 5 1 (.slice A2 (20 + n) c2) (20 + n) (cellsOf hd))
  else if j = L + 1 then v = .pointer (some ⟨g, 18, none⟩)
  else if j = L + 2 then v = .slice D m d
  else if j = L + 3 then P < k ∧ w.ownsRow base 5 1 v all.length (cellsOf all)
  else if j = L + 4 then P + 1 < k ∧ w.ownsRow base 5 1 v all.length (cellsOf all)
  else if j = L - 1 then v = .int .i64 s
  else v = .agg #[.int .i64 x.dscp, .int .i64 x.ecn, .int .i64 x.id, .int .i64 x.flags, .int .i64 x.frag, .int .i64 x.ttl, .int .i64 x.proto, .int .i64 x.src.k, .int .i64 x.src.a, .int .i64 x.src.b, .int .i64 x.src.c, .int .i64 x.src.d, .int .i64 x.dst.k, .int .i64 x.dst.a, .int .i64 x.dst.b, .int .i64 x.dst.c, .int .i64 x.dst.d, .slice A n c, .slice D m d]

theorem gfb_on {x : Fh} {A D : Option Addr} {n c m d g base L P : Nat} {s : Int} {hd all : List UInt8} {i k k' : Nat} {w w' : World} {u : Value} (hk : k' = k ∨ k' = k + 1) (hb : Below w.heap.size w w') (h : GFB x A D n c m d g base L P s hd all i k w u) : GFB x A D n c m d g base L P s hd all i k' w' u := by
  unfold GFB at *
  split
  · rename_i h1
    rw [if_pos h1] at h
    obtain ⟨A2, c2, e, o⟩ := h
    exact ⟨A2, c2, e, fun hk' => own_below (o (by omega)) hb⟩
  · rename_i h1
    rw [if_neg h1] at h
    split
    · rename_i h2; rw [if_pos h2] at h; exact h
    · rename_i h2
      rw [if_neg h2] at h
      split
      · rename_i h3; rw [if_pos h3] at h; exact h
      · rename_i h3
        rw [if_neg h3] at h
        split
        · rename_i h4; rw [if_pos h4] at h; exact ⟨by omega, own_below h.2 hb⟩
        · rename_i h4
          rw [if_neg h4] at h
          split
          · rename_i h5; rw [if_pos h5] at h; exact ⟨by omega, own_below h.2 hb⟩
          · rename_i h5; rw [if_neg h5] at h; exact h
theorem gfb_app {x : Fh} {A D : Option Addr} {n c m d g base L P : Nat} {s : Int} {hd all : List UInt8} {i : Nat} {w w' : World} {u : Value} (hi : i ≠ L + 3) (h : GFB x A D n c m d g base L P s hd all i P w u) : GFB x A D n c m d g base L P s hd all i (P + 1) w' u := by
  unfold GFB at *
  split
  · rename_i h1
    rw [if_pos h1] at h
    obtain ⟨A2, c2, e, o⟩ := h
    exact ⟨A2, c2, e, fun hk' => by omega⟩
  · rename_i h1
    rw [if_neg h1] at h
    split
    · rename_i h2; rw [if_pos h2] at h; exact h
    · rename_i h2
      rw [if_neg h2] at h
      split
      · rename_i h3; rw [if_pos h3] at h; exact h
      · rename_i h3
        rw [if_neg h3, if_neg hi] at h
        split
        · rename_i h5; rw [if_pos h5] at h; have := h.1; omega
        · rename_i h5; rw [if_neg h5] at h; exact h
theorem sum_word {x : Fh} {os : List UInt8} {n m : Nat} (hok : x.ok n m = true) (hl : os.length = n) : ¬ x.sum os m = -1 := by
  have h1 : x.sum os m = checksum (x.head 0 os m) := by simp [Fh.sum, hl, hok]
  have h2 := ((x.ok_iff n m).1 hok).2.2.2.1.1
  have h3 := comp_word (onesSum_word (bs := x.head 0 os m) (by rw [Fh.head_length]; omega))
  have h4 : isWord (checksum (x.head 0 os m)) = true := h3
  rw [isWord_iff] at h4
  omega









end Go.Proofs.Ytkmijefheejcjaa

namespace Go.Proofs.Ytkmijefheejcjaa
set_option maxRecDepth 100000
open Go.RowKit

/-- What the operations of the last region leave. -/
def GRd (x : Fh) (A8 D9 : Option Addr) (p c8 q d9 g rl base : Nat) (rs : List UInt8) (j : Nat) (w : World) (v : Value) : Prop :=
  if j = 0 then v = .agg #[.int .i64 x.dscp, .int .i64 x.ecn, .int .i64 x.id, .int .i64 x.flags, .int .i64 x.frag, .int .i64 x.ttl, .int .i64 x.proto, .int .i64 x.src.k, .int .i64 x.src.a, .int .i64 x.src.b, .int .i64 x.src.c, .int .i64 x.src.d, .int .i64 x.dst.k, .int .i64 x.dst.a, .int .i64 x.dst.b, .int .i64 x.dst.c, .int .i64 x.dst.d, .slice A8 p c8, .slice D9 q d9]
  else if j = 7 then v = .int .i64 (rl : Int)
  else if j = 8 ∨ j = 10 then ∃ E k, v = .slice E rl k ∧ w.ownsRow base 5 1 (.slice E rl k) rl (cellsOf rs)
  else if j = 11 then v = .int .i64 0
  else if j = 9 then True
  else v = .pointer (some ⟨g, 0, none⟩)
def ROwn (rl base : Nat) (rs : List UInt8) (w w' : World) : Prop := ∀ E k, w.ownsRow base 5 1 (.slice E rl k) rl (cellsOf rs) → w'.ownsRow base 5 1 (.slice E rl k) rl (cellsOf rs)
theorem gRd_on {x : Fh} {A8 D9 : Option Addr} {p c8 q d9 g rl base : Nat} {rs : List UInt8} (j : Nat) (w w' : World) (v : Value) (h : ROwn rl base rs w w') (hv : GRd x A8 D9 p c8 q d9 g rl base rs j w v) : GRd x A8 D9 p c8 q d9 g rl base rs j w' v := by
  unfold GRd at *
  split
  · rename_i h0; rw [if_pos h0] at hv; exact hv
  · rename_i h0
    rw [if_neg h0] at hv
    split
    · rename_i h1; rw [if_pos h1] at hv; exact hv
    · rename_i h1
      rw [if_neg h1] at hv
      split
      · rename_i h2
        rw [if_pos h2] at hv
        obtain ⟨E, k, e, o⟩ := hv
        exact ⟨E, k, e, h E k o⟩
      · rename_i h2
        rw [if_neg h2] at hv
        exact hv



end Go.Proofs.Ytkmijefheejcjaa

namespace Go.Proofs.Ytkmijefheejcjaa
set_option maxRecDepth 100000
open Go.RowKit

section
variable {o : Oper} {a : Act} {w : World} {K : Act → World → Prop} {Q : Exit → Act → World → Prop}
theorem z_not (t : Nat) (b : Bool) (ty : TypeId) (ho : o.op = .unOp .not ty (.tmp t)) (ht : a.eval (.tmp t) = .bool b) (hK : K (a.put o.dst (.bool (!b))) w) : o.wp Try.prog a w K Q := by
  unfold Oper.wp execOp
  simp only [ho, ht]
  go_simp
  exact hK
theorem z_load (ty : TypeId) (t g : Nat) (u : Value) (ho : o.op = .load ty (.tmp t)) (ht : a.eval (.tmp t) = .pointer (some ⟨g, 0, none⟩)) (hl : (loadVar ty ⟨g, 0, none⟩).run Try.prog w = .ok u w) (hK : K (a.put o.dst u) w) : o.wp Try.prog a w K Q := by
  unfold Oper.wp execOp
  simp only [ho, ht, Instr.loadAt, Instr.sureAddr, Sem.run_bind, Sem.run_pure, Result.andThen_ok, hl]
  exact hK
end

/-- A call of function f is taken by a contract of it. -/
def Steps1 (f : Nat) : Prop := ∀ (o : Oper) (a : Act) (w : World) (K : Act → World → Prop) (Q : Exit → Act → World → Prop) (t : Nat) (u : Value) (ts : Array TypeId), o.op = .call { callee := .value (.func f), args := #[.tmp t], argTypes := ts } → a.eval (.tmp t) = u →
    (Calls Try.prog f #[u] w fun e w' => ∃ v, e = .returned v ∧ K (a.put o.dst v) w') → o.wp Try.prog a w K Q
def Steps2 (f : Nat) : Prop := ∀ (o : Oper) (a : Act) (w : World) (K : Act → World → Prop) (Q : Exit → Act → World → Prop) (t s : Nat) (u v : Value) (ts : Array TypeId), o.op = .call { callee := .value (.func f), args := #[.tmp t, .tmp s], argTypes := ts } → a.eval (.tmp t) = u → a.eval (.tmp s) = v →
    (Calls Try.prog f #[u, v] w fun e w' => ∃ v, e = .returned v ∧ K (a.put o.dst v) w') → o.wp Try.prog a w K Q

/-- What the five operations leave. -/
def GSameZ (U5 U1 : Value) (Cp : World → Value → Prop) : Nat → World → Value → Prop
  | 0, _, v => v = U5
  | 1, _, v => v = U1
  | 2, w, v => Cp w v
  | 3, _, v => v = .bool true
  | 4, _, v => v = .bool false
  | _, _, _ => True
theorem gSameZ_on {U5 U1 : Value} {Cp : World → Value → Prop} (hc : ∀ v v' u, Below v.heap.size v v' → Cp v u → Cp v' u) (j : Nat) (w w' : World) (v : Value) (h : Below w.heap.size w w') (hv : GSameZ U5 U1 Cp j w v) : GSameZ U5 U1 Cp j w' v := by
  match j, hv with
  | 0, hv => exact hv
  | 1, hv => exact hv
  | 2, hv => exact hc _ _ _ h hv
  | 3, hv => exact hv
  | 4, hv => exact hv
  | j + 5, _ => trivial

theorem same_regionZ {ops : Array Oper} {id : Nat} {a : Act} {w : World} {Q : Exit → Act → World → Prop} {fc fe : Nat} (S1 : Steps1 fc) (S2 : Steps2 fe) (N s1 s5 p g1 g5 : Nat) (tl ti : TypeId) (o0 o1 o2 o3 o4 : Oper) (ts2 ts3 : Array TypeId) (ty4 : TypeId) (hops : ops = #[o0, o1, o2, o3, o4]) (hf : formB ops N [s1, s5] = true) (hN : a.tmps.size = N) (hp : p + 5 ≤ N)
    (e0 : o0.op = .load ti (.tmp s5) ∧ o0.dst = some p) (e1 : o1.op = .load tl (.tmp s1) ∧ o1.dst = some (p + 1)) (e2 : o2.op = .call { callee := .value (.func fc), args := #[.tmp (p + 1)], argTypes := ts2 } ∧ o2.dst = some (p + 2))
    (e3 : o3.op = .call { callee := .value (.func fe), args := #[.tmp p, .tmp (p + 2)], argTypes := ts3 } ∧ o3.dst = some (p + 3)) (e4 : o4.op = .unOp .not ty4 (.tmp (p + 3)) ∧ o4.dst = some (p + 4))
    (n2 : (needOf ops 2).contains (1, p + 1) = true) (n3 : (needOf ops 3).contains (0, p) = true) (n3' : (needOf ops 3).contains (2, p + 2) = true) (n4 : (needOf ops 4).contains (3, p + 3) = true)
    (hs1 : a.tmps.getD s1 undef = .pointer (some ⟨g1, 0, none⟩)) (hs5 : a.tmps.getD s5 undef = .pointer (some ⟨g5, 0, none⟩))
    (U1 U5 : Value) (Cp : World → Value → Prop) (hc : ∀ v v' u, Below v.heap.size v v' → Cp v u → Cp v' u)
    (hq1 : ∀ v, Below w.heap.size w v → (loadVar tl ⟨g1, 0, none⟩).run Try.prog v = .ok U1 v) (hq5 : ∀ v, Below w.heap.size w v → (loadVar ti ⟨g5, 0, none⟩).run Try.prog v = .ok U5 v)
    (hcopy : ∀ v, Below w.heap.size w v → Calls Try.prog fc #[U1] v fun e v' => ∃ u, e = .returned u ∧ Cp v' u ∧ Below v.heap.size v v')
    (hsame : ∀ v u, Below w.heap.size w v → Cp v u → Calls Try.prog fe #[U5, u] v fun e v' => e = .returned (.bool true) ∧ Below v.heap.size v v')
    (h : ∀ w' u, Below w.heap.size w w' → Q .normal (((((a.put (some p) U5).put (some (p + 1)) U1).put (some (p + 2)) u).put (some (p + 3)) (.bool true)).put (some (p + 4)) (.bool false)) w') :
    (Code.region id ops true).wp Try.prog Q a w := by
  have hmx : Try.prog.follows .mixedOrders = true := by kernel_rfl
  refine wp_region_kept hmx (GSameZ U5 U1 Cp) [s1, s5] (fun _ v => Below w.heap.size w v) (fun v v' => Below v.heap.size v v') N hf hN ⟨rfl, rfl, rfl, Nat.le_refl _, fun _ _ => rfl⟩ (fun j v v' u hb hv => gSameZ_on hc j v v' u hb hv) ?_ ?_
  · intro j o ho k a' v K' hx hnd hk hI hK
    subst hops
    match j, ho with
    | 0, ho =>
      obtain rfl := Option.some.inj ho
      exact z_load ti _ g5 _ e0.1 (out_of hx s5 (by simp) hs5) (hq5 v hI) (hK _ _ rfl (Below.refl _ _) hI)
    | 1, ho =>
      obtain rfl := Option.some.inj ho
      exact z_load tl _ g1 _ e1.1 (out_of hx s1 (by simp) hs1) (hq1 v hI) (hK _ _ rfl (Below.refl _ _) hI)
    | 2, ho =>
      obtain rfl := Option.some.inj ho
      have h1 : a'.eval (.tmp (p + 1)) = U1 := (need_of (Γ := GSameZ U5 U1 Cp) (w := v) hnd 1 (p + 1) n2 :)
      refine S1 _ _ _ _ _ _ _ _ e2.1 h1 ((hcopy v hI).mono ?_)
      rintro e' v' ⟨u, rfl, o6, b6⟩
      exact ⟨_, rfl, hK _ _ o6 b6 (bthen hI b6)⟩
    | 3, ho =>
      obtain rfl := Option.some.inj ho
      have h0 : a'.eval (.tmp p) = U5 := (need_of (Γ := GSameZ U5 U1 Cp) (w := v) hnd 0 p n3 :)
      have h2 : Cp v (a'.eval (.tmp (p + 2))) := (need_of (Γ := GSameZ U5 U1 Cp) (w := v) hnd 2 (p + 2) n3' :)
      refine S2 _ _ _ _ _ _ _ _ _ _ e3.1 h0 rfl ((hsame v _ hI h2).mono ?_)
      rintro e' v' ⟨rfl, b6⟩
      exact ⟨_, rfl, hK _ _ rfl b6 (bthen hI b6)⟩
    | 4, ho =>
      obtain rfl := Option.some.inj ho
      have h3 : a'.eval (.tmp (p + 3)) = .bool true := (need_of (Γ := GSameZ U5 U1 Cp) (w := v) hnd 3 (p + 3) n4 :)
      exact z_not _ true _ e4.1 h3 (hK _ _ rfl (Below.refl _ _) hI)
    | j + 5, ho => simp at ho
  · intro a' w' hsz hdf hout hrest hG hI
    subst hops
    have g0 : a'.tmps.getD p undef = _ := hG 0 o0 p rfl e0.2
    have g1' : a'.tmps.getD (p + 1) undef = _ := hG 1 o1 (p + 1) rfl e1.2
    have g3 : a'.tmps.getD (p + 3) undef = _ := hG 3 o3 (p + 3) rfl e3.2
    have g4 : a'.tmps.getD (p + 4) undef = _ := hG 4 o4 (p + 4) rfl e4.2
    have E0 := act_eq5 p hsz hN hdf hp (fun t t0 t1 t2 t3 t4 => hrest t (fun j o hj hd => by
      match j, hj with
      | 0, hj => obtain rfl := Option.some.inj hj; exact t0 (Option.some.inj (hd.symm.trans e0.2))
      | 1, hj => obtain rfl := Option.some.inj hj; exact t1 (Option.some.inj (hd.symm.trans e1.2))
      | 2, hj => obtain rfl := Option.some.inj hj; exact t2 (Option.some.inj (hd.symm.trans e2.2))
      | 3, hj => obtain rfl := Option.some.inj hj; exact t3 (Option.some.inj (hd.symm.trans e3.2))
      | 4, hj => obtain rfl := Option.some.inj hj; exact t4 (Option.some.inj (hd.symm.trans e4.2))
      | j + 5, hj => simp at hj)) _ _ _ _ _ g0 g1' rfl g3 g4
    rw [E0]
    exact h w' _ hI
end Go.Proofs.Ytkmijefheejcjaa
