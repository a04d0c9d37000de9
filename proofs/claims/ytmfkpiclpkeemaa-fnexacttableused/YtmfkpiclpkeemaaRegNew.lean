/-
  A region that draws its order and holds a new variable of a struct type (ia) and the store of a result into it (is). Plain: any program.
-/
import Derived.Test.YtmfkpiclpkeemaaRegStage2
import Derived.Test.YtmfkpiclpkeemaaRegThen
import Derived.Test.YtmfkpiclpkeemaaCells
import Derived.Deep.WholeRow
namespace Go.Proofs.Ytmfkpiclpkeemaa
set_option maxRecDepth 100000
open Go.RowKit

/-- What an operation leaves: a value; something that holds on while nothing old is turned, and beside the store into a new block that holds the cells Z; anything. -/
inductive Fr (T : TypeId) (Z : Array Value) where
  | val (v : Value)
  | pr (f : World → Value → Prop) (h1 : ∀ w w' v, Below w.heap.size w w' → f w v → f w' v) (h2 : ∀ (w w' : World) (v : Value) (b : Nat), w.heap[b]? = some (.cells Z T (0, 0)) → w.grownBy w' (some b) → f w v → f w' v)
  | any
def Fr.holds {T : TypeId} {Z : Array Value} : Fr T Z → World → Value → Prop
  | .val u, _, v => v = u
  | .pr f _ _, w, v => f w v
  | .any, _, _ => True
theorem Fr.on {T : TypeId} {Z : Array Value} {w w' : World} (hb : Below w.heap.size w w') (f : Fr T Z) (v : Value) (h : f.holds w v) : f.holds w' v := by
  cases f with
  | val u => exact h
  | pr f k _ => exact k w w' v hb h
  | any => trivial
theorem Fr.grown {T : TypeId} {Z : Array Value} {w w' : World} {b : Nat} (hz : w.heap[b]? = some (.cells Z T (0, 0))) (hb : w.grownBy w' (some b)) (f : Fr T Z) (v : Value) (h : f.holds w v) : f.holds w' v := by
  cases f with
  | val u => exact h
  | pr f _ k => exact k w w' v b hz hb h
  | any => trivial

section
variable {P : Program} {ops : Array Oper} {Q : Exit → Act → World → Prop}
theorem wp_region_new {id : Nat} {a : Act} {w : World} (T : TypeId) (Z : Array Value) (hmx : P.follows .mixedOrders = true) (out : List Nat) (n : Nat) (L : List (Nat × Nat)) (F : List (Fr T Z)) (ia is da : Nat) (hne : ia ≠ is)
    (hf : formB ops n out = true) (hch : chainB ops [ia, is] = true) (hL : dstsOf ops ops.size = L) (hda : (ops[ia]?).bind (·.dst) = some da) (hneed : (needOf ops is).contains (ia, da) = true) (hFi : F.getD is .any = .any) (hn : a.tmps.size = n)
    (G : Nat → World → Prop) (hG : ∀ b v v', Below v.heap.size v v' → G b v → G b v')
    (hal : ∀ o, ops[ia]? = some o → ∀ a' v K, K (a'.put o.dst (.pointer (some ⟨v.heap.size, 0, none⟩))) (v.alloc (.cells Z T)) → o.wp P a' v K Q)
    (hst : ∀ o, ops[is]? = some o → ∀ a' v K b, (∀ t ∈ out, a'.tmps.getD t undef = a.tmps.getD t undef) → a'.tmps.getD da undef = .pointer (some ⟨b, 0, none⟩) → v.heap[b]? = some (.cells Z T (0, 0)) → (∀ p ∈ needOf ops is, p.1 ≠ ia → (F.getD p.1 .any).holds v (a'.tmps.getD p.2 undef)) → Below w.heap.size w v →
      (∀ u v', G b v' → v.grownBy v' (some b) → K (a'.put o.dst u) v') → o.wp P a' v K Q)
    (hop : ∀ (j : Nat) o, j ≠ ia → j ≠ is → ops[j]? = some o → ∀ a' v K, (∀ t ∈ out, a'.tmps.getD t undef = a.tmps.getD t undef) → (∀ p ∈ needOf ops j, p.1 ≠ ia → (F.getD p.1 .any).holds v (a'.tmps.getD p.2 undef)) → Below w.heap.size w v →
      (∀ u v', (F.getD j .any).holds v' u → Below v.heap.size v v' → K (a'.put o.dst u) v') → o.wp P a' v K Q)
    (hend : ∀ (f : Nat → Value) v b, (∀ p ∈ L, p.1 ≠ ia → (F.getD p.1 .any).holds v (f p.1)) → f ia = .pointer (some ⟨b, 0, none⟩) → w.heap.size ≤ b → G b v → Below w.heap.size w v → Q .normal (L.foldl (fun b p => b.put (some p.2) (f p.1)) a) v) : (Code.region id ops true).wp P Q a w := by
  subst hL
  refine wp_region_stage2 hmx (fun j m v u => if j = ia then (∃ b, u = .pointer (some ⟨b, 0, none⟩) ∧ w.heap.size ≤ b ∧ (m ≤ 1 → v.heap[b]? = some (.cells Z T (0, 0))) ∧ (2 ≤ m → G b v)) else (F.getD j .any).holds v u) out [ia, is] (fun _ v => Below w.heap.size w v) n hf hch hn ⟨rfl, rfl, rfl, Nat.le_refl _, fun _ _ => rfl⟩ ?_ ?_
  · intro j o ho m a' v K' hx hnd hm hI hK
    by_cases hja : j = ia
    · subst hja
      have hm0 : 0 = m := hm 0 rfl
      subst hm0
      have hnx : nextOf [j, is] j 0 = 1 := by simp [nextOf]
      refine hal o ho a' v K' (hK _ _ ?_ ?_ (bthen hI (Joins.below_alloc1 v _)))
      · rw [if_pos rfl, hnx]
        exact ⟨_, rfl, hI.size, fun _ => K.new v _, fun h => absurd h (by omega)⟩
      · intro i oi d hi _ _ h
        rw [if_neg hi] at h ⊢
        exact Fr.on (Joins.below_alloc1 v _) _ _ h
    · by_cases hjs : j = is
      · subst hjs
        have hm1 : 1 = m := hm 1 rfl
        subst hm1
        have hnx : nextOf [ia, j] j 1 = 2 := by simp [nextOf]
        have hb := hnd (ia, da) (by simpa using hneed)
        rw [if_pos rfl] at hb
        obtain ⟨b, e, lb, hz, _⟩ := hb
        refine hst o ho a' v K' b hx e (hz (by omega)) (fun p hp hpa => by have := hnd p hp; rwa [if_neg hpa] at this) hI (fun u v' hg hgr => hK u v' ?_ ?_ (bgrown hI hgr (fun k hk => by cases hk; exact lb)))
        · rw [if_neg hja, hFi]
          trivial
        · intro i oi d hi hoi hd h
          by_cases hia : i = ia
          · subst hia
            rw [if_pos rfl, hnx]
            have hd' : d = da := by
              rw [hoi] at hda
              simp only [Option.bind_some] at hda
              rw [hd] at hda
              exact Option.some.inj hda
            subst hd'
            exact ⟨b, e, lb, fun h => absurd h (by omega), fun _ => hg⟩
          · rw [if_neg hia] at h ⊢
            exact Fr.grown (hz (by omega)) hgr _ _ h
      · have hnx : nextOf [ia, is] j m = m := by simp [nextOf, hja, hjs]
        refine hop j o hja hjs ho a' v K' hx (fun p hp hpa => by have := hnd p hp; rwa [if_neg hpa] at this) hI (fun u v' hu hb => hK u v' ?_ ?_ (bthen hI hb))
        · rw [if_neg hja]
          exact hu
        · intro i oi d hi _ _ h
          rw [hnx]
          by_cases hia : i = ia
          · subst hia
            rw [if_pos rfl] at h ⊢
            obtain ⟨b, e, lb, h1, h2⟩ := h
            exact ⟨b, e, lb, fun k => K.below hb (h1 k), fun k => hG b v v' hb (h2 k)⟩
          · rw [if_neg hia] at h ⊢
            exact Fr.on hb _ _ h
  · intro a' w' hsz hdf hout hrest hs hI
    have hda2 : ∃ oa, ops[ia]? = some oa ∧ oa.dst = some da := by
      cases ho : ops[ia]? with
      | none => rw [ho] at hda; cases hda
      | some oa => rw [ho] at hda; exact ⟨oa, rfl, hda⟩
    obtain ⟨oa, hoa, hod⟩ := hda2
    have hΓ := hs ia oa da hoa hod
    rw [if_pos rfl] at hΓ
    obtain ⟨b, e, lb, _, hg⟩ := hΓ
    have hdst : ∀ p ∈ dstsOf ops ops.size, (p.1 ≠ ia → (F.getD p.1 .any).holds w' (a'.tmps.getD p.2 undef)) ∧ p.2 < n := by
      intro p hp
      obtain ⟨_, o, h2, h3⟩ := dstsOf_mem.1 hp
      refine ⟨fun hpa => by have := hs p.1 o p.2 h2 h3; rwa [if_neg hpa] at this, ?_⟩
      have h4 := (formB_at hf h2).2.2
      exact (h4 p.2 h3).1
    obtain ⟨f, hfv⟩ : ∃ f : Nat → Value, ∀ p ∈ dstsOf ops ops.size, f p.1 = a'.tmps.getD p.2 undef := by
      refine ⟨fun j => match (ops[j]?).bind (·.dst) with | some d => a'.tmps.getD d undef | none => undef, fun p hp => ?_⟩
      obtain ⟨_, o, h2, h3⟩ := dstsOf_mem.1 hp
      simp [h2, h3]
    have hmem : (ia, da) ∈ dstsOf ops ops.size := dstsOf_mem.2 ⟨(Array.getElem?_eq_some_iff.1 hoa).1, oa, hoa, hod⟩
    have E := act_eqT hsz hdf (dstsOf ops ops.size) f a hn rfl (fun p hp => ⟨(hdst p hp).2, (hfv p hp).symm⟩) (fun t ht => hrest t (fun j o ho hd => ht (j, t) (dstsOf_mem.2 ⟨(Array.getElem?_eq_some_iff.1 ho).1, o, ho, hd⟩) rfl))
    rw [E]
    exact hend f w' b (fun p hp hpa => by rw [hfv p hp]; exact (hdst p hp).1 hpa) (by rw [hfv (ia, da) hmem]; exact e) lb (hg (by simp)) hI
theorem new_of {T : TypeId} {Z : Array Value} {j ia : Nat} {F : List (Fr T Z)} {v : World} {a' : Act} (hnd : ∀ p ∈ needOf ops j, p.1 ≠ ia → (F.getD p.1 .any).holds v (a'.tmps.getD p.2 undef)) (i t : Nat) (h : (needOf ops j).contains (i, t) = true) (hi : i ≠ ia) : (F.getD i .any).holds v (a'.eval (.tmp t)) :=
  hnd (i, t) (by simpa using h) hi
end
theorem setRow_grownR (w : World) (g : Nat) (cs : Array Value) : w.grownBy (w.setRow g cs) (some g) := ⟨rfl, rfl, rfl, by simp, fun k _ hk => setRow_other w g k cs (fun e => hk (by rw [e]))⟩
end Go.Proofs.Ytmfkpiclpkeemaa
