/-
  'append' onto a new empty slice of bytes turns nothing that was there before. A region that draws its order, one of the first operations of which (p) makes one row grow; what the others leave holds on beside that. Plain: any program. The laws' own comparison of IPv6 packets. What the laws on IPv6 packets share: whole loads of an argument, a variable that is made and stored, the comparison with a new copy. Single operations of a region, each by what it leaves. One more extension header, as operations of a region that draws its order. A region that draws its order, with a chain of operations in forced order: what an operation left in its slot may change from one link of the chain to the next. Plain: any program. A region that draws its order whose operations leave values, but for a chain of stores; what holds behind each link is asked. Plain: any program.
-/
import Derived.Test.YthogonpjkngpjaaRb01
import Derived.Test.YthogonpjkngpjaaRb06
import Derived.Test.YthogonpjkngpjaaRb03
import Derived.Test.YthogonpjkngpjaaRb24
import Derived.Lib.QuietBelow
import Derived.Deep.QuietTactic
import Derived.BigQuiet
import Derived.Test.YthogonpjkngpjaaRb04
namespace Go.Proofs.Ythogonpjkngpjaa
set_option maxRecDepth 100000
open Go.RowKit

/-- A new empty slice of bytes. -/
def EmptyO (base : Nat) (w : World) (v : Value) : Prop := ∃ b', v = .slice (some ⟨b', 0, none⟩) 0 0 ∧ base ≤ b' ∧ w.heap[b']? = some (.cells #[] 5 (0, 0))
theorem EmptyO.on {base : Nat} (w w' : World) (v : Value) (hb : Below w.heap.size w w') (h : EmptyO base w v) : EmptyO base w' v := by
  obtain ⟨b', e, l, r⟩ := h
  exact ⟨b', e, l, (hb.block b' (Array.getElem?_eq_some_iff.1 r).1).trans r⟩
/-- A slice of its own that reads as ds. -/
def OwnB (b L : Nat) (ds : List UInt8) (w : World) (v : Value) : Prop := ∃ A c, v = .slice A L c ∧ w.ownsRow b 5 1 (.slice A L c) L (cellsOf ds)
theorem OwnB.on {b L : Nat} {ds : List UInt8} (w w' : World) (v : Value) (hb : Below w.heap.size w w') (h : OwnB b L ds w v) : OwnB b L ds w' v := by
  obtain ⟨A, c, e, o⟩ := h
  exact ⟨A, c, e, own_below o hb⟩
end Go.Proofs.Ythogonpjkngpjaa

namespace Go.Proofs.Ythogonpjkngpjaa
set_option maxRecDepth 100000
open Go.RowKit

/-- What an operation leaves: a value; something that holds on while nothing old is turned but the row blk; anything. -/
inductive Fq (blk : Option Nat) where
  | val (v : Value)
  | pr (f : World → Value → Prop) (h1 : ∀ w w' v, Below w.heap.size w w' → f w v → f w' v) (h2 : ∀ w w' v, w.grownBy w' blk → f w v → f w' v)
  | any
def Fq.holds {blk : Option Nat} : Fq blk → World → Value → Prop
  | .val u, _, v => v = u
  | .pr f _ _, w, v => f w v
  | .any, _, _ => True
theorem Fq.on {blk : Option Nat} {w w' : World} (hb : Below w.heap.size w w') (f : Fq blk) (v : Value) (h : f.holds w v) : f.holds w' v := by
  cases f with
  | val u => exact h
  | pr f k _ => exact k w w' v hb h
  | any => trivial
theorem Fq.grown {blk : Option Nat} {w w' : World} (hb : w.grownBy w' blk) (f : Fq blk) (v : Value) (h : f.holds w v) : f.holds w' v := by
  cases f with
  | val u => exact h
  | pr f _ k => exact k w w' v hb h
  | any => trivial

section
variable {P : Program} {ops : Array Oper} {Q : Exit → Act → World → Prop}
theorem wp_region_grow {id : Nat} {a : Act} {w : World} (blk : Option Nat) (hmx : P.follows .mixedOrders = true) (k n : Nat) (L : List (Nat × Nat)) (R : List Oper) (F : List (Fq blk)) (hf : thenB ops n k = true) (hL : dstsOf ops k = L) (hR : ops.toList.drop k = R) (p dp : Nat) (hpk : p < k) (hpL : (p, dp) ∈ L) (hn : a.tmps.size = n)
    (J : Bool → World → Prop) (hJ : ∀ b v v', Below v.heap.size v v' → J b v → J b v') (h0 : J false { w with drawn := w.drawn + 1 }) (G : World → Value → Prop) (hG : ∀ v v' u, Below v.heap.size v v' → G v u → G v' u)
    (hop : ∀ (j : Nat) o, j < k → j ≠ p → ops[j]? = some o → ∀ b a' v K, ((markOf ops (p + 1) [p]).contains j = true → b = false) → (∀ t, (∀ q ∈ L, q.2 ≠ t) → a'.tmps.getD t undef = a.tmps.getD t undef) → (∀ q ∈ needOf ops j, q.1 ≠ p → (F.getD q.1 .any).holds v (a'.tmps.getD q.2 undef)) → J b v →
      (∀ u v', (F.getD j .any).holds v' u → Below v.heap.size v v' → K (a'.put o.dst u) v') → o.wp P a' v K Q)
    (hpp : ∀ o, ops[p]? = some o → ∀ a' v K, (∀ t, (∀ q ∈ L, q.2 ≠ t) → a'.tmps.getD t undef = a.tmps.getD t undef) → (∀ q ∈ needOf ops p, q.1 ≠ p → (F.getD q.1 .any).holds v (a'.tmps.getD q.2 undef)) → J false v →
      (∀ u v', G v' u → v.grownBy v' blk → J true v' → K (a'.put o.dst u) v') → o.wp P a' v K Q)
    (hend : ∀ (f : Nat → Value) v, (∀ q ∈ L, q.1 ≠ p → (F.getD q.1 .any).holds v (f q.1)) → G v (f p) → J true v → wpList P ops Q R (L.foldl (fun b q => b.put (some q.2) (f q.1)) a) v) : (Code.region id ops true).wp P Q a w := by
  refine wp_region_thenP hmx k n L R hf hL hR (fun j b v u => if j = p then (b = true → G v u) else (F.getD j .any).holds v u) J p hpk hn h0 ?_ ?_ ?_
  · intro j o hj hjp ho b a' v K hc hk hnd hI hK
    refine hop j o hj hjp ho b a' v K hc hk (fun q hq hqp => by have := hnd q hq; rwa [if_neg hqp] at this) hI (fun u v' hu hb => hK u v' (by rw [if_neg hjp]; exact hu) (fun i x hx => ?_) (hJ b v v' hb hI))
    by_cases hip : i = p
    · rw [if_pos hip] at hx ⊢
      exact fun e => hG v v' x hb (hx e)
    · rw [if_neg hip] at hx ⊢
      exact Fq.on hb _ _ hx
  · intro o ho a' v K hk hnd hI hK
    refine hpp o ho a' v K hk (fun q hq hqp => by have := hnd q hq; rwa [if_neg hqp] at this) hI (fun u v' hu hg hJ' => hK u v' (by rw [if_pos rfl]; exact fun _ => hu) (fun i x hip hx => ?_) hJ')
    rw [if_neg hip] at hx ⊢
    exact Fq.grown hg _ _ hx
  · intro f v hf' hI
    have hp := hf' (p, dp) hpL
    simp only [if_true] at hp
    exact hend f v (fun q hq hqp => by have := hf' q hq; rwa [if_neg hqp] at this) (hp trivial) hI
theorem grow_of {blk : Option Nat} {j p : Nat} {F : List (Fq blk)} {v : World} {a' : Act} (hnd : ∀ q ∈ needOf ops j, q.1 ≠ p → (F.getD q.1 .any).holds v (a'.tmps.getD q.2 undef)) (i t : Nat) (h : (needOf ops j).contains (i, t) = true) (hi : i ≠ p) : (F.getD i .any).holds v (a'.eval (.tmp t)) :=
  hnd (i, t) (by simpa using h) hi
end
end Go.Proofs.Ythogonpjkngpjaa

namespace Go.Proofs.Ythogonpjkngpjaa
set_option maxRecDepth 100000
open Go.RowKit





end Go.Proofs.Ythogonpjkngpjaa

namespace Go.Proofs.Ythogonpjkngpjaa
set_option maxRecDepth 100000
open Go.RowKit

/-- A copy of a packet, as the comparison wants it. -/
def SixCp (x : Sh) (es : List (Int × List UInt8)) (bs : List UInt8) (n m : Nat) (w : World) (u : Value) : Prop :=
  ∃ A c zs D d, u = .agg #[.int .i64 x.cls, .int .i64 x.label, .int .i64 x.hops, .int .i64 x.proto, .int .i64 x.src.k, .int .i64 x.src.a, .int .i64 x.src.b, .int .i64 x.src.c, .int .i64 x.src.d, .int .i64 x.dst.k, .int .i64 x.dst.a, .int .i64 x.dst.b, .int .i64 x.dst.c, .int .i64 x.dst.d, .slice A n c, .slice D m d] ∧ XR w w.heap.size A zs ∧ zs.map Ey.says = es ∧ RB w w.heap.size D bs
theorem SixCp.on {x : Sh} {es : List (Int × List UInt8)} {bs : List UInt8} {n m : Nat} (w w' : World) (u : Value) (hb : Below w.heap.size w w') (h : SixCp x es bs n m w u) : SixCp x es bs n m w' u := by
  obtain ⟨A, c, zs, D, d, e, r, hz, s⟩ := h
  exact ⟨A, c, zs, D, d, e, r.on hb, hz, (s.below hb).more hb.size⟩

end Go.Proofs.Ythogonpjkngpjaa

namespace Go.Proofs.Ythogonpjkngpjaa
set_option maxRecDepth 100000
open Go.RowKit

section
variable {o : Oper} {a : Act} {w : World} {K : Act → World → Prop} {Q : Exit → Act → World → Prop}
end
end Go.Proofs.Ythogonpjkngpjaa

namespace Go.Proofs.Ythogonpjkngpjaa
set_option maxRecDepth 100000
open Go.RowKit

section
variable {o : Oper} {a : Act} {w : World} {K : Act → World → Prop} {Q : Exit → Act → World → Prop}
end
/-- An extension header with a body of its own from base on. -/
def ExtV (base : Nat) (kd : Int) (ds : List UInt8) (w : World) (v : Value) : Prop := ∃ y : Ey, y.k = kd ∧ y.bs = ds ∧ v = .agg #[.int .i64 y.k, .slice y.A y.bs.length y.c] ∧ w.ownsRow base 5 1 y.body y.bs.length (cellsOf y.bs)
/-- A row of one such header. -/
def ExtR (base : Nat) (kd : Int) (ds : List UInt8) (w : World) (v : Value) : Prop := ∃ (y : Ey) (g : Nat), y.k = kd ∧ y.bs = ds ∧ v = .slice (some ⟨g, 0, none⟩) 1 1 ∧ base ≤ g ∧ w.heap[g]? = some (.cells #[.int .i64 y.k, .slice y.A y.bs.length y.c] 99 (0, 0)) ∧ w.ownsRow base 5 1 y.body y.bs.length (cellsOf y.bs)
section
variable {base : Nat} {blk : Option Nat} {kd : Int} {ds : List UInt8} {L : Nat}
theorem ExtV.on (w w' : World) (v : Value) (hb : Below w.heap.size w w') (h : ExtV base kd ds w v) : ExtV base kd ds w' v := by
  obtain ⟨y, a, b, c, d⟩ := h
  exact ⟨y, a, b, c, own_below d hb⟩
theorem ExtR.on (w w' : World) (v : Value) (hb : Below w.heap.size w w') (h : ExtR base kd ds w v) : ExtR base kd ds w' v := by
  obtain ⟨y, g, a, b, c, l, r, d⟩ := h
  exact ⟨y, g, a, b, c, l, K.below hb r, own_below d hb⟩
theorem EmptyO.grown (hk : ∀ k, blk = some k → k < base) (w w' : World) (v : Value) (hb : w.grownBy w' blk) (h : EmptyO base w v) : EmptyO base w' v := by
  obtain ⟨b', e, l, r⟩ := h
  exact ⟨b', e, l, K.kept hb r (fun k e => by have := hk k e; omega)⟩
theorem OwnB.grown (hk : ∀ k, blk = some k → k < base) (w w' : World) (v : Value) (hb : w.grownBy w' blk) (h : OwnB base L ds w v) : OwnB base L ds w' v := by
  obtain ⟨A, c, e, o⟩ := h
  exact ⟨A, c, e, own_grown o hb (fun k h1 h2 => by have := (o.lt k h1).1; have := hk k h2; omega)⟩
theorem ExtV.grown (hk : ∀ k, blk = some k → k < base) (w w' : World) (v : Value) (hb : w.grownBy w' blk) (h : ExtV base kd ds w v) : ExtV base kd ds w' v := by
  obtain ⟨y, a, b, c, d⟩ := h
  exact ⟨y, a, b, c, own_grown d hb (fun k h1 h2 => by have := (d.lt k h1).1; have := hk k h2; omega)⟩
theorem ExtR.grown (hk : ∀ k, blk = some k → k < base) (w w' : World) (v : Value) (hb : w.grownBy w' blk) (h : ExtR base kd ds w v) : ExtR base kd ds w' v := by
  obtain ⟨y, g, a, b, c, l, r, d⟩ := h
  exact ⟨y, g, a, b, c, l, K.kept hb r (fun k e => by have := hk k e; omega), own_grown d hb (fun k h1 h2 => by have := (d.lt k h1).1; have := hk k h2; omega)⟩
end
end Go.Proofs.Ythogonpjkngpjaa

namespace Go.Proofs.Ythogonpjkngpjaa
set_option maxRecDepth 100000
open Go.RowKit

section
variable {P : Program} {ops : Array Oper} {Q : Exit → Act → World → Prop}

/-- What stands while the region runs. -/
structure KeptT (ops : Array Oper) (Γ : Nat → Nat → World → Value → Prop) (ch : List Nat) (I : Nat → World → Prop) (n : Nat) (a0 : Act) (listed : Array Bool) (a : Act) (w : World) : Prop where
  size : listed.size = ops.size
  len : a.tmps.size = n
  defers : a.defers = a0.defers
  keep : ∀ t, (∀ (j : Nat) o, ops[j]? = some o → o.dst ≠ some t) → a.tmps.getD t undef = a0.tmps.getD t undef
  inv : ∃ m, (∀ (i j : Nat), ch[i]? = some j → (listed.getD j false = true ↔ i < m)) ∧ m ≤ ch.length ∧ I m w ∧ (∀ (j : Nat) o d, ops[j]? = some o → o.dst = some d → listed.getD j false = true → Γ j m w (a.tmps.getD d undef))

theorem wpAny_stage2 {Γ : Nat → Nat → World → Value → Prop} {out ch : List Nat} {I : Nat → World → Prop} {n : Nat} {a0 : Act} (hf : formB ops n out = true) (hch : chainB ops ch = true)
    (hop : ∀ (j : Nat) o, ops[j]? = some o → ∀ m a w K, (∀ t ∈ out, a.tmps.getD t undef = a0.tmps.getD t undef) → (∀ p ∈ needOf ops j, Γ p.1 m w (a.tmps.getD p.2 undef)) → (∀ i, ch[i]? = some j → i = m) → I m w →
      (∀ v w', Γ j (nextOf ch j m) w' v → (∀ i oi d, i ≠ j → ops[i]? = some oi → oi.dst = some d → Γ i m w (a.tmps.getD d undef) → Γ i (nextOf ch j m) w' (a.tmps.getD d undef)) → I (nextOf ch j m) w' → K (a.put o.dst v) w') → o.wp P a w K Q)
    (hend : ∀ a w, a.tmps.size = n → a.defers = a0.defers → (∀ t ∈ out, a.tmps.getD t undef = a0.tmps.getD t undef) → (∀ t, (∀ (j : Nat) o, ops[j]? = some o → o.dst ≠ some t) → a.tmps.getD t undef = a0.tmps.getD t undef) →
      (∀ (j : Nat) o d, ops[j]? = some o → o.dst = some d → Γ j ch.length w (a.tmps.getD d undef)) → I ch.length w → Q .normal a w) :
    ∀ (fuel : Nat) (listed : Array Bool) (a : Act) (w : World), KeptT ops Γ ch I n a0 listed a w → ops.size ≤ up listed + fuel → wpAny P .any ops Q fuel listed a w := by
  have fin : ∀ (listed : Array Bool) (a : Act) (w : World), KeptT ops Γ ch I n a0 listed a w → up listed = ops.size → Q .normal a w := by
    intro listed a w hk hu
    have hall : ∀ j, j < ops.size → listed.getD j false = true := fun j hj => up_all (by rw [hu, hk.size]) (by rw [hk.size]; exact hj)
    obtain ⟨m, hm, hml, hI, hsl⟩ := hk.inv
    have hme : m = ch.length := by
      rcases Nat.lt_or_ge m ch.length with h | h
      · obtain ⟨o, ho, _⟩ := chainB_at hch (List.getElem?_eq_getElem h)
        have := (hm m _ (List.getElem?_eq_getElem h)).1 (hall _ (Array.getElem?_eq_some_iff.1 ho).1)
        omega
      · omega
    subst hme
    refine hend a w hk.len hk.defers (fun t ht => hk.keep t (fun j oj hj hdj => ((formB_at hf hj).2.2 t hdj).2.1 ht)) hk.keep (fun j o d ho hd => hsl j o d ho hd ?_) hI
    exact hall j (Array.getElem?_eq_some_iff.1 ho).1
  intro fuel
  induction fuel with
  | zero =>
    intro listed a w hk hle
    have hu : up listed = ops.size := by have := up_le listed; have := hk.size; omega
    refine ⟨?_, fin listed a w hk hu⟩
    cases hr : Region.ready .any ops listed with
    | nil => rfl
    | cons i l =>
      have hm : i ∈ Region.ready .any ops listed := by rw [hr]; simp
      obtain ⟨h0, _⟩ := mem_ready.1 hm
      have := (up_set h0).1
      have h3 := up_le (listed.setIfInBounds i true)
      have h4 : (listed.setIfInBounds i true).size = listed.size := by simp
      have := hk.size
      omega
  | succ fuel ih =>
    intro listed a w hk hle
    refine ⟨fun hr => fin listed a w hk (some_ready hf hk.size hr), fun i hi => ?_⟩
    obtain ⟨h0, o, ho, hall⟩ := mem_ready.1 hi
    obtain ⟨hu, hil⟩ := up_set h0
    obtain ⟨hlt, hg, hd⟩ := formB_at hf ho
    obtain ⟨m, hm, hml, hI, hsl⟩ := hk.inv
    have hfalse : listed.getD i false = false := by simpa [hil] using h0
    have hnow : ∀ q, ch[q]? = some i → q = m := by
      intro q hq
      have h1 : ¬ q < m := fun h => by rw [(hm q i hq).2 h] at hfalse; cases hfalse
      cases q with
      | zero => omega
      | succ q' =>
        obtain ⟨o', ho', hprev⟩ := chainB_at hch hq
        obtain rfl : o = o' := Option.some.inj (ho.symm.trans ho')
        obtain ⟨e, he, hb, hce⟩ := hprev q' rfl
        have := (hm q' e.on hce).1 (hall e he hb)
        omega
    unfold wpOp
    simp only [ho]
    rw [if_pos (by simp [Region.wanted, hg])]
    left
    refine hop i o ho m a w _ (fun t ht => hk.keep t (fun j oj hj hdj => ?_)) (fun p hp => ?_) hnow hI ?_
    · exact ((formB_at hf hj).2.2 t hdj).2.1 ht
    · obtain ⟨⟨e, he, hep, hb⟩, oj, hoj, hdj⟩ := needOf_spec ho hp
      exact hsl p.1 oj p.2 hoj hdj (by rw [← hep]; exact hall e he hb)
    · intro v w' hv hR hI'
      refine ih _ _ _ ⟨by simpa using hk.size, by rw [put_size]; exact hk.len, by rw [put_defers']; exact hk.defers, fun t ht => ?_, ⟨nextOf ch i m, ?_, ?_, hI', fun j oj d hj hdj hl => ?_⟩⟩ (by omega)
      · rw [put_other a v (ht i o ho)]
        exact hk.keep t ht
      · intro q j hq
        by_cases hji : j = i
        · subst hji
          have hqm := hnow q hq
          have hc : j ∈ ch := List.mem_of_getElem? hq
          rw [getD_set_own hil]
          simp [nextOf, hc, hqm]
        · rw [getD_set_ne (listed := listed) false (Ne.symm hji), hm q j hq]
          unfold nextOf
          split
          · rename_i hc
            obtain ⟨q', hq'⟩ := List.mem_iff_getElem?.1 (show i ∈ ch by simpa using hc)
            have h1 := hnow q' hq'
            have h2 : q ≠ m := fun e => hji (Option.some.inj ((e ▸ hq).symm.trans (h1 ▸ hq')))
            omega
          · exact Iff.rfl
      · unfold nextOf
        split
        · rename_i hc
          obtain ⟨q', hq'⟩ := List.mem_iff_getElem?.1 (show i ∈ ch by simpa using hc)
          have h1 := hnow q' hq'
          have := (List.getElem?_eq_some_iff.1 hq').1
          omega
        · exact hml
      · by_cases hji : j = i
        · subst hji
          obtain rfl : o = oj := Option.some.inj (ho.symm.trans hj)
          rw [hdj, put_own a v (hd d hdj).1 hk.len]
          exact hv
        · have hne : o.dst ≠ some d := fun e => hji ((hd d e).2.2 j oj hj hdj)
          rw [put_other a v hne]
          refine hR j oj d hji hj hdj (hsl j oj d hj hdj ?_)
          rw [← getD_set_ne (listed := listed) false (Ne.symm hji)]
          exact hl

theorem wp_region_stage2 {id : Nat} {a : Act} {w : World} (hmx : P.follows .mixedOrders = true) (Γ : Nat → Nat → World → Value → Prop) (out ch : List Nat) (I : Nat → World → Prop) (n : Nat) (hf : formB ops n out = true) (hch : chainB ops ch = true)
    (hn : a.tmps.size = n) (h0 : I 0 { w with drawn := w.drawn + 1 })
    (hop : ∀ (j : Nat) o, ops[j]? = some o → ∀ m a' w K, (∀ t ∈ out, a'.tmps.getD t undef = a.tmps.getD t undef) → (∀ p ∈ needOf ops j, Γ p.1 m w (a'.tmps.getD p.2 undef)) → (∀ i, ch[i]? = some j → i = m) → I m w →
      (∀ v w', Γ j (nextOf ch j m) w' v → (∀ i oi d, i ≠ j → ops[i]? = some oi → oi.dst = some d → Γ i m w (a'.tmps.getD d undef) → Γ i (nextOf ch j m) w' (a'.tmps.getD d undef)) → I (nextOf ch j m) w' → K (a'.put o.dst v) w') → o.wp P a' w K Q)
    (hend : ∀ a' w', a'.tmps.size = n → a'.defers = a.defers → (∀ t ∈ out, a'.tmps.getD t undef = a.tmps.getD t undef) → (∀ t, (∀ (j : Nat) o, ops[j]? = some o → o.dst ≠ some t) → a'.tmps.getD t undef = a.tmps.getD t undef) →
      (∀ (j : Nat) o d, ops[j]? = some o → o.dst = some d → Γ j ch.length w' (a'.tmps.getD d undef)) → I ch.length w' → Q .normal a' w') : (Code.region id ops true).wp P Q a w := by
  have hfl : ∀ j, (Array.replicate ops.size false).getD j false = false := by
    intro j
    simp [Array.getElem?_replicate]
    split <;> simp
  refine wp_region_any hmx (wpAny_stage2 (out := out) (ch := ch) (I := I) (Γ := Γ) (n := n) (a0 := a) hf hch hop hend ops.size _ a _ ⟨by simp, hn, rfl, fun _ _ => rfl, ⟨0, fun i j _ => ?_, Nat.zero_le _, h0, fun j o d _ _ hl => ?_⟩⟩ (by omega))
  · rw [hfl j]
    simp
  · rw [hfl j] at hl
    cases hl
end
end Go.Proofs.Ythogonpjkngpjaa

namespace Go.Proofs.Ythogonpjkngpjaa
set_option maxRecDepth 100000
open Go.RowKit

/-- What an operation leaves: a value, or anything. -/
def leaves (F : List (Option Value)) (j : Nat) (u : Value) : Prop := ∀ x, F.getD j none = some x → u = x
section
variable {P : Program} {ops : Array Oper} {Q : Exit → Act → World → Prop}
theorem wp_region_links {id : Nat} {a : Act} {w : World} (hmx : P.follows .mixedOrders = true) (out ch : List Nat) (n : Nat) (L : List (Nat × Nat)) (F : List (Option Value)) (I : Nat → World → Prop)
    (hf : formB ops n out = true) (hch : chainB ops ch = true) (hL : dstsOf ops ops.size = L) (hn : a.tmps.size = n) (h0 : I 0 { w with drawn := w.drawn + 1 })
    (hop : ∀ (j : Nat) o, ops[j]? = some o → ∀ m a' v K, (∀ t ∈ out, a'.tmps.getD t undef = a.tmps.getD t undef) → (∀ p ∈ needOf ops j, leaves F p.1 (a'.tmps.getD p.2 undef)) → (∀ i, ch[i]? = some j → i = m) → I m v →
      (∀ u v', leaves F j u → I (nextOf ch j m) v' → K (a'.put o.dst u) v') → o.wp P a' v K Q)
    (hend : ∀ (f : Nat → Value) v, (∀ p ∈ L, leaves F p.1 (f p.1)) → I ch.length v → Q .normal (L.foldl (fun b p => b.put (some p.2) (f p.1)) a) v) : (Code.region id ops true).wp P Q a w := by
  subst hL
  refine wp_region_stage2 hmx (fun j _ _ u => leaves F j u) out ch I n hf hch hn h0 ?_ ?_
  · intro j o ho m a' v K' hx hnd hm hI hK
    exact hop j o ho m a' v K' hx hnd hm hI (fun u v' hu hi => hK u v' hu (fun _ _ _ _ _ _ h => h) hi)
  · intro a' w' hsz hdf hout hrest hs hI
    have hdst : ∀ p ∈ dstsOf ops ops.size, leaves F p.1 (a'.tmps.getD p.2 undef) ∧ p.2 < n := by
      intro p hp
      obtain ⟨_, o, h2, h3⟩ := dstsOf_mem.1 hp
      exact ⟨hs p.1 o p.2 h2 h3, ((formB_at hf h2).2.2 p.2 h3).1⟩
    obtain ⟨f, hfv⟩ : ∃ f : Nat → Value, ∀ p ∈ dstsOf ops ops.size, f p.1 = a'.tmps.getD p.2 undef := by
      refine ⟨fun j => match (ops[j]?).bind (·.dst) with | some d => a'.tmps.getD d undef | none => undef, fun p hp => ?_⟩
      obtain ⟨_, o, h2, h3⟩ := dstsOf_mem.1 hp
      simp [h2, h3]
    have E := act_eqT hsz hdf (dstsOf ops ops.size) f a hn rfl (fun p hp => ⟨(hdst p hp).2, (hfv p hp).symm⟩) (fun t ht => hrest t (fun j o ho hd => ht (j, t) (dstsOf_mem.2 ⟨(Array.getElem?_eq_some_iff.1 ho).1, o, ho, hd⟩) rfl))
    rw [E]
    exact hend f w' (fun p hp => by rw [hfv p hp]; exact (hdst p hp).1) hI
theorem links_of {F : List (Option Value)} {j : Nat} {a' : Act} (hnd : ∀ p ∈ needOf ops j, leaves F p.1 (a'.tmps.getD p.2 undef)) (i t : Nat) (x : Value) (h : (needOf ops j).contains (i, t) = true) (hx : F.getD i none = some x) : a'.eval (.tmp t) = x :=
  hnd (i, t) (by simpa using h) x hx
end
end Go.Proofs.Ythogonpjkngpjaa
