/-
  When an upper layer is valid. Plain: nothing here speaks of the program. The bytes of an upper layer. Plain: nothing here speaks of the program. The checksum of an upper layer between two addresses. Plain: nothing here speaks of the program. A region that draws its order, as in the text RegThen, one of the first operations of which (p) may turn a row: what stands is said for the time ahead of it and behind it. Plain: any program. A slice of bytes that is being built by appending, beside what must be kept. Single operations of a region: the fields of an upper layer, and calls of the methods of the formats through an interface. The formats of the upper layers, and their sizes, in the program and in the model. A region that draws its order, the first operations of which leave a value each, or a slice of bytes that can be read, and touch nothing that was there before; the others follow in their order. Plain: any program. The size of an upper layer in the program.
-/
import Derived.Test.YthogonpjkngpjaaRc03
import Derived.Test.YthogonpjkngpjaaRc01
import Derived.Test.YthogonpjkngpjaaRc08
import Derived.Test.YthogonpjkngpjaaRc02
import Derived.Test.YthogonpjkngpjaaRc04
import Derived.Test.YthogonpjkngpjaaRc09
import Derived.Handy
namespace Go.Proofs.Ythogonpjkngpjaa
set_option maxRecDepth 100000
open Go.RowKit
def kindB (k : Int) : Bool := (k == 4) || (k == 6)
def Uh.fields (x : Uh) (k : Int) (o : Nat) : Bool :=
  if x.kind = 0 then true
  else if x.kind = 1 then upTo x.sport 65535 && upTo x.dport 65535 && half x.seq && half x.ack && upTo x.bits 4095 && upTo x.window 65535 && upTo x.urgent 65535 && optOk o
  else if x.kind = 2 then upTo x.sport 65535 && upTo x.dport 65535 && ((k == 4) || !x.nosum)
  else if x.kind = 3 then upTo x.ty 255 && upTo x.code 255 && half x.rest
  else false
def noF (x : Uh) (o : Nat) : Bool := (x.sport == 0) && (x.dport == 0) && (x.seq == 0) && (x.ack == 0) && (x.bits == 0) && (x.window == 0) && (x.urgent == 0) && (x.ty == 0) && (x.code == 0) && (x.rest == 0) && !x.nosum && decide (o = 0)
def Uh.unused (x : Uh) : Uh :=
  if x.kind = 1 then { x with sport := 0, dport := 0, seq := 0, ack := 0, bits := 0, window := 0, urgent := 0 }
  else if x.kind = 2 then { x with sport := 0, dport := 0, nosum := false }
  else if x.kind = 3 then { x with ty := 0, code := 0, rest := 0 }
  else x
def Uh.ok (x : Uh) (k : Int) (o n : Nat) : Bool := kindB k && x.fields k o && noF x.unused (if x.kind = 1 then 0 else o) && decide (x.size o n ≤ 1500)
theorem upTo_zero (h : Int) (hh : 0 ≤ h) : upTo 0 h = true := by simp [upTo, hh]
def tcpH (x : Uh) (o : List UInt8) (sum : Int) : List UInt8 := put16 x.sport ++ put16 x.dport ++ put32 x.seq ++ put32 x.ack ++ put16 (4096 * (5 + (o.length : Int) / 4) + x.bits) ++ put16 x.window ++ put16 sum ++ put16 x.urgent ++ o
def udpH (x : Uh) (n : Nat) (sum : Int) : List UInt8 := put16 x.sport ++ put16 x.dport ++ put16 (8 + (n : Int)) ++ put16 sum
def icmpH (x : Uh) (sum : Int) : List UInt8 := [byteOf x.ty, byteOf x.code] ++ put16 sum ++ put32 x.rest
def Uh.enc (x : Uh) (o bs : List UInt8) (sum : Int) : List UInt8 :=
  (if x.kind = 1 then tcpH x o sum else if x.kind = 2 then udpH x bs.length sum else if x.kind = 3 then icmpH x sum else []) ++ bs
theorem tcpH_len (x : Uh) (o : List UInt8) (s : Int) : (tcpH x o s).length = 20 + o.length := by simp [tcpH, put16, put32]; omega
theorem udpH_len (x : Uh) (n : Nat) (s : Int) : (udpH x n s).length = 8 := by simp [udpH, put16]
theorem icmpH_len (x : Uh) (s : Int) : (icmpH x s).length = 8 := by simp [icmpH, put16, put32]
theorem Uh.enc_len (x : Uh) (o bs : List UInt8) (s : Int) (hk : x.kind = 0 ∨ x.kind = 1 ∨ x.kind = 2 ∨ x.kind = 3) : ((x.enc o bs s).length : Int) = x.size o.length bs.length := by
  rcases hk with h | h | h | h
  · simp [Uh.enc, Uh.size, h]
  · simp [Uh.enc, Uh.size, h, tcpH_len]
  · simp [Uh.enc, Uh.size, h, udpH_len]
  · simp [Uh.enc, Uh.size, h, icmpH_len]
def Uh.top (x : Uh) (o n : Nat) (a b : Ad) : Int :=
  if x.kind = 1 then psSum a b 6 (x.size o n) else if x.kind = 2 then psSum a b 17 (x.size o n) else if a.k = 6 then psSum a b 58 (x.size o n) else 0
def udp0 (k s : Int) : Int := if k = 2 ∧ s = 0 then 65535 else s
def Uh.sum (x : Uh) (o bs : List UInt8) (a b : Ad) : Int :=
  if (pairA a b && x.ok a.k o.length bs.length) = true then
    (if x.kind = 0 ∨ x.nosum = true then 0 else udp0 x.kind (65535 - sadd (x.top o.length bs.length a b) (onesSum (x.enc o bs 0))))
  else -1
theorem Uh.ok_facts {x : Uh} {k : Int} {o n : Nat} (h : x.ok k o n = true) : kindB k = true ∧ x.fields k o = true ∧ noF x.unused (if x.kind = 1 then 0 else o) = true ∧ x.size o n ≤ 1500 := by
  simpa [Uh.ok, and_assoc] using h
theorem Uh.ok_kind {x : Uh} {k : Int} {o n : Nat} (h : x.ok k o n = true) : x.kind = 0 ∨ x.kind = 1 ∨ x.kind = 2 ∨ x.kind = 3 := by
  have hf := (Uh.ok_facts h).2.1
  unfold Uh.fields at hf
  split at hf
  · omega
  · split at hf
    · omega
    · split at hf
      · omega
      · split at hf
        · omega
        · cases hf
theorem Uh.ok_room {x : Uh} {k : Int} {o n : Nat} (h : x.ok k o n = true) : o ≤ 40 ∧ o % 4 = 0 ∧ n ≤ 1500 ∧ 0 ≤ x.size o n ∧ x.size o n ≤ 1500 := by
  obtain ⟨_, hf, hn, hs⟩ := Uh.ok_facts h
  rcases Uh.ok_kind h with e | e | e | e
  · simp [noF, e] at hn
    simp [Uh.size, e] at hs ⊢
    omega
  · simp [Uh.fields, e, optOk] at hf
    simp [Uh.size, e] at hs ⊢
    omega
  · simp [noF, e] at hn
    simp [Uh.size, e] at hs ⊢
    omega
  · simp [noF, e] at hn
    simp [Uh.size, e] at hs ⊢
    omega
theorem Uh.ok_tcp {x : Uh} {k : Int} {o n : Nat} (h : x.ok k o n = true) (e : x.kind = 1) : 0 ≤ x.bits ∧ x.bits ≤ 4095 := by
  have hf := (Uh.ok_facts h).2.1
  simp [Uh.fields, e, upTo] at hf
  omega
theorem Uh.ok_icmp {x : Uh} {k : Int} {o n : Nat} (h : x.ok k o n = true) (e : x.kind = 3) : (0 ≤ x.ty ∧ x.ty ≤ 255) ∧ 0 ≤ x.code ∧ x.code ≤ 255 := by
  have hf := (Uh.ok_facts h).2.1
  simp [Uh.fields, e, upTo] at hf
  omega
theorem psSum_word {a b : Ad} {p s : Int} (h : pairA a b = true) (hp : upTo p 255 = true) (hs : upTo s 1500 = true) : isWord (psSum a b p s) = true := by
  rw [psSum_yes (by simp [h, hp, hs])]
  apply onesSum_word
  have hxy : (a.ok = true ∧ b.ok = true) ∧ a.k = b.k := by simpa [pairA] using h
  have l1 : a.bytes.length ≤ 16 := by simp [Ad.bytes, hxy.1.1]; split <;> simp [put32, Ad.whole_length]
  have l2 : b.bytes.length ≤ 16 := by simp [Ad.bytes, hxy.1.2]; split <;> simp [put32, Ad.whole_length]
  unfold psBytes
  split <;> simp [put16, put32] <;> omega
theorem Uh.top_word {x : Uh} {o n : Nat} {a b : Ad} (h : pairA a b = true) (k : x.ok a.k o n = true) : isWord (x.top o n a b) = true := by
  have hs := Uh.ok_room k
  have hu : upTo (x.size o n) 1500 = true := upTo_iff.2 hs.2.2.2
  unfold Uh.top
  split
  · exact psSum_word h rfl hu
  · split
    · exact psSum_word h rfl hu
    · split
      · exact psSum_word h rfl hu
      · rfl
theorem Uh.enc_word {x : Uh} {k : Int} {o bs : List UInt8} (h : x.ok k o.length bs.length = true) (s : Int) : isWord (onesSum (x.enc o bs s)) = true := by
  apply onesSum_word
  have h1 := Uh.enc_len x o bs s (Uh.ok_kind h)
  have h2 := Uh.ok_room h
  omega
theorem Uh.sum_no {x : Uh} {o bs : List UInt8} {a b : Ad} (h : (pairA a b && x.ok a.k o.length bs.length) = false) : x.sum o bs a b = -1 := by simp [Uh.sum, h]
theorem Uh.sum_zero {x : Uh} {o bs : List UInt8} {a b : Ad} (h : (pairA a b && x.ok a.k o.length bs.length) = true) (k : x.kind = 0 ∨ x.nosum = true) : x.sum o bs a b = 0 := by rw [Uh.sum, if_pos h, if_pos k]
theorem Uh.sum_yes {x : Uh} {o bs : List UInt8} {a b : Ad} (h : (pairA a b && x.ok a.k o.length bs.length) = true) (k : ¬ (x.kind = 0 ∨ x.nosum = true)) : x.sum o bs a b = udp0 x.kind (65535 - sadd (x.top o.length bs.length a b) (onesSum (x.enc o bs 0))) := by rw [Uh.sum, if_pos h, if_neg k]
end Go.Proofs.Ythogonpjkngpjaa

namespace Go.Proofs.Ythogonpjkngpjaa
set_option maxRecDepth 100000
open Go.RowKit
section
variable {P : Program} {ops : Array Oper} {Q : Exit → Act → World → Prop}
structure KeptP (ops : Array Oper) (Γ : Nat → Bool → World → Value → Prop) (I : Bool → World → Prop) (p n k : Nat) (a0 : Act) (listed : Array Bool) (a : Act) (w : World) : Prop where
  size : listed.size = ops.size
  len : a.tmps.size = n
  defers : a.defers = a0.defers
  keep : ∀ t, (∀ (j : Nat) o, j < k → ops[j]? = some o → o.dst ≠ some t) → a.tmps.getD t undef = a0.tmps.getD t undef
  none : ∀ i, k ≤ i → listed.getD i false = false
  closed : ∀ j, listed.getD j false = true → ∀ i ∈ depsOf ops j, listed.getD i false = true
  inv : I (listed.getD p false) w
  slots : ∀ (j : Nat) o d, j < k → ops[j]? = some o → o.dst = some d → listed.getD j false = true → Γ j (listed.getD p false) w (a.tmps.getD d undef)
theorem wpAny_thenP {Γ : Nat → Bool → World → Value → Prop} {I : Bool → World → Prop} {p n k : Nat} {a0 : Act} (hf : thenB ops n k = true)
    (hpk : p < k)
    (hop : ∀ (j : Nat) o, j < k → j ≠ p → ops[j]? = some o → ∀ b a w K, ((markOf ops (p + 1) [p]).contains j = true → b = false) → (∀ t, (∀ (j : Nat) o, j < k → ops[j]? = some o → o.dst ≠ some t) → a.tmps.getD t undef = a0.tmps.getD t undef) → (∀ q ∈ needOf ops j, Γ q.1 b w (a.tmps.getD q.2 undef)) → I b w →
      (∀ v w', Γ j b w' v → (∀ i u, Γ i b w u → Γ i b w' u) → I b w' → K (a.put o.dst v) w') → o.wp P a w K Q)
    (hpp : ∀ o, ops[p]? = some o → ∀ a w K, (∀ t, (∀ (j : Nat) o, j < k → ops[j]? = some o → o.dst ≠ some t) → a.tmps.getD t undef = a0.tmps.getD t undef) → (∀ q ∈ needOf ops p, Γ q.1 false w (a.tmps.getD q.2 undef)) → I false w →
      (∀ v w', Γ p true w' v → (∀ i u, i ≠ p → Γ i false w u → Γ i true w' u) → I true w' → K (a.put o.dst v) w') → o.wp P a w K Q)
    (hend : ∀ a w, a.tmps.size = n → a.defers = a0.defers → (∀ t, (∀ (j : Nat) o, j < k → ops[j]? = some o → o.dst ≠ some t) → a.tmps.getD t undef = a0.tmps.getD t undef) →
      (∀ (j : Nat) o d, j < k → ops[j]? = some o → o.dst = some d → Γ j true w (a.tmps.getD d undef)) → I true w → wpList P ops Q (ops.toList.drop k) a w) :
    ∀ (fuel : Nat) (listed : Array Bool) (a : Act) (w : World), KeptP ops Γ I p n k a0 listed a w → ops.size ≤ up listed + fuel → wpAny P .any ops Q fuel listed a w := by
  have hks : k < ops.size := by
    simp only [thenB, Bool.and_eq_true, decide_eq_true_eq] at hf
    exact hf.1.1
  have notall : ∀ (listed : Array Bool) (a : Act) (w : World), KeptP ops Γ I p n k a0 listed a w → up listed = ops.size → False := by
    intro listed a w hk hu
    have := up_all (listed := listed) (by rw [hu, hk.size]) (i := k) (by rw [hk.size]; exact hks)
    rw [hk.none k (Nat.le_refl _)] at this
    cases this
  have nostop : ∀ (listed : Array Bool) (a : Act) (w : World), KeptP ops Γ I p n k a0 listed a w → Region.ready .any ops listed = [] → False := by
    intro listed a w hk hr
    have hall : ∀ j, j < ops.size → listed.getD j false = true := by
      intro j
      induction j using Nat.strongRecOn with
      | ind j ih =>
        intro hj
        obtain ⟨o, ho⟩ : ∃ o, ops[j]? = some o := ⟨_, Array.getElem?_eq_getElem hj⟩
        cases hg : listed.getD j false
        · have hm : j ∈ Region.ready .any ops listed := by
            refine mem_ready.2 ⟨?_, o, ho, fun e he hb => ?_⟩
            · have hj2 : j < listed.size := by rw [hk.size]; exact hj
              simpa [hj2] using hg
            · have := (thenB_at hf ho).1 e he hb
              exact ih e.on this (by omega)
          rw [hr] at hm
          cases hm
        · rfl
    have := hall k hks
    rw [hk.none k (Nat.le_refl _)] at this
    cases this
  intro fuel
  induction fuel with
  | zero =>
    intro listed a w hk hle
    exact (notall listed a w hk (by have := up_le listed; have := hk.size; omega)).elim
  | succ fuel ih =>
    intro listed a w hk hle
    refine ⟨fun hr => (nostop listed a w hk hr).elim, fun i hi => ?_⟩
    obtain ⟨h0, o, ho, hall⟩ := mem_ready.1 hi
    obtain ⟨hu, hil⟩ := up_set h0
    obtain ⟨hlt, hd, htail⟩ := thenB_at hf ho
    rcases Nat.lt_trichotomy i k with hik | hik | hik
    · obtain ⟨hg, hd⟩ := hd hik
      unfold wpOp
      simp only [ho]
      rw [if_pos (by simp [Region.wanted, hg])]
      left
      have hneed : ∀ q ∈ needOf ops i, Γ q.1 (listed.getD p false) w (a.tmps.getD q.2 undef) := fun q hq => by
        obtain ⟨⟨e, he, hep, hb⟩, oj, hoj, hdj⟩ := needOf_spec ho hq
        exact hk.slots q.1 oj q.2 (by have := hlt e he hb; omega) hoj hdj (by rw [← hep]; exact hall e he hb)
      have hnext : ∀ v w', Γ i ((listed.setIfInBounds i true).getD p false) w' v → (∀ j u, j ≠ i → Γ j (listed.getD p false) w u → Γ j ((listed.setIfInBounds i true).getD p false) w' u) → I ((listed.setIfInBounds i true).getD p false) w' → wpAny P .any ops Q fuel (listed.setIfInBounds i true) (a.put o.dst v) w' := by
        intro v w' hv hR hI
        refine ih _ _ _ ⟨by simpa using hk.size, by rw [put_size]; exact hk.len, by rw [put_defers']; exact hk.defers, fun t ht => ?_, fun j hj => ?_, fun j hl l hl2 => ?_, hI, fun j oj d hjk hj hdj hl => ?_⟩ (by omega)
        · rw [put_other a v (ht i o hik ho)]
          exact hk.keep t ht
        · rw [getD_set_ne (listed := listed) false (by omega)]
          exact hk.none j hj
        · by_cases hji : j = i
          · subst hji
            obtain ⟨o', ho', e, he, heq, hb⟩ := depsOf_spec hl2
            obtain rfl : o = o' := Option.some.inj (ho.symm.trans ho')
            rw [← heq, getD_set_ne (listed := listed) false (by have := hlt e he hb; omega)]
            exact hall e he hb
          · rw [getD_set_ne (listed := listed) false (Ne.symm hji)] at hl
            have := hk.closed j hl l hl2
            by_cases hli : l = i
            · subst hli
              simp [hil]
            · rw [getD_set_ne (listed := listed) false (Ne.symm hli)]
              exact this
        · by_cases hji : j = i
          · subst hji
            obtain rfl : o = oj := Option.some.inj (ho.symm.trans hj)
            rw [hdj, put_own a v (hd d hdj).1 hk.len]
            exact hv
          · have hne : o.dst ≠ some d := fun e => hji ((hd d e).2 j oj hjk hj hdj)
            rw [put_other a v hne]
            refine hR j _ hji (hk.slots j oj d hjk hj hdj ?_)
            rw [← getD_set_ne (listed := listed) false (Ne.symm hji)]
            exact hl
      by_cases hip : i = p
      · subst hip
        have e0 : listed.getD i false = false := by
          have h2 : i < listed.size := hil
          simpa [h2] using h0
        have e1 : (listed.setIfInBounds i true).getD i false = true := by simp [hil]
        rw [e0, e1] at hnext
        rw [e0] at hneed
        have hinv := hk.inv
        rw [e0] at hinv
        exact hpp o ho a w _ hk.keep hneed hinv (fun v w' hv hR hI => hnext v w' hv hR hI)
      · have e1 : (listed.setIfInBounds i true).getD p false = listed.getD p false := getD_set_ne (listed := listed) false hip
        rw [e1] at hnext
        refine hop i o hik hip ho _ a w _ (fun hc => ?_) hk.keep hneed hk.inv (fun v w' hv hR hI => hnext v w' hv (fun j u _ hu => hR j u hu) hI)
        cases hlp : listed.getD p false with
        | false => rfl
        | true =>
          exfalso
          have hS := markOf_spec (fun j => listed.getD j false = true) (fun j l hj hl => hk.closed j hj l hl) (p + 1) [p] (fun l hl => by simp only [List.mem_singleton] at hl; subst hl; exact hlp) i (by simpa using hc)
          have h2 : i < listed.size := hil
          have h3 : listed.getD i false = false := by simpa [h2] using h0
          rw [h3] at hS
          cases hS
    · subst hik
      have hdone : ∀ j, j < i → listed.getD j false = true := by
        have := (thenB_all hf (fun j => listed.getD j false = true ∨ j = i) (fun j l hj hl => ?_) (.inr rfl)).2
        · intro j hj
          rcases this j hj with h | h
          · exact h
          · omega
        · rcases hj with hj | rfl
          · exact .inl (hk.closed j hj l hl)
          · obtain ⟨o', ho', e, he, heq, hb⟩ := depsOf_spec hl
            obtain rfl : o = o' := Option.some.inj (ho.symm.trans ho')
            exact .inl (heq ▸ hall e he hb)
      have hpd : listed.getD p false = true := hdone p hpk
      have hw := hend a w hk.len hk.defers hk.keep (fun j oj d hjk hj hdj => by have := hk.slots j oj d hjk hj hdj (hdone j hjk); rwa [hpd] at this) (by have := hk.inv; rwa [hpd] at this)
      have hup : up listed ≤ i := by
        have h1 : up listed = (listed.toList.take i).count true + (listed.toList.drop i).count true := by
          rw [up, ← List.count_append, List.take_append_drop]
        have h2 : (listed.toList.drop i).count true = 0 := by
          rw [List.count_eq_zero]
          intro hm
          obtain ⟨q, hq, he⟩ := List.getElem_of_mem hm
          simp at hq he
          have := hk.none (i + q) (by omega)
          simp at this
          rw [Array.getElem?_eq_getElem (by omega)] at this
          simp [he] at this
        have h3 := List.count_le_length (a := true) (l := listed.toList.take i)
        simp at h3
        omega
      have T := wpAny_tail (P := P) (Q := Q) hf (fuel + 1) i listed a w (Nat.le_refl _) (by omega) hk.size (fun j hj => Iff.intro (fun h => (by
        rcases Nat.lt_or_ge j i with h2 | h2
        · exact h2
        · rw [hk.none j h2] at h
          cases h)) (fun h => hdone j h)) (by omega) hw
      exact T.2 i hi
    · exfalso
      obtain ⟨o', ho', e, he, heq, hb⟩ := depsOf_spec (htail hik)
      obtain rfl : o = o' := Option.some.inj (ho.symm.trans ho')
      have := hall e he hb
      rw [heq, hk.none (i - 1) (by omega)] at this
      cases this
theorem wp_region_thenP {id : Nat} {a : Act} {w : World} (hmx : P.follows .mixedOrders = true) (k n : Nat) (L : List (Nat × Nat)) (R : List Oper) (hf : thenB ops n k = true) (hL : dstsOf ops k = L) (hR : ops.toList.drop k = R) (Γ : Nat → Bool → World → Value → Prop) (I : Bool → World → Prop) (p : Nat) (hpk : p < k) (hn : a.tmps.size = n) (h0 : I false { w with drawn := w.drawn + 1 })
    (hop : ∀ (j : Nat) o, j < k → j ≠ p → ops[j]? = some o → ∀ b a' w K, ((markOf ops (p + 1) [p]).contains j = true → b = false) → (∀ t, (∀ p ∈ L, p.2 ≠ t) → a'.tmps.getD t undef = a.tmps.getD t undef) → (∀ q ∈ needOf ops j, Γ q.1 b w (a'.tmps.getD q.2 undef)) → I b w →
      (∀ v w', Γ j b w' v → (∀ i u, Γ i b w u → Γ i b w' u) → I b w' → K (a'.put o.dst v) w') → o.wp P a' w K Q)
    (hpp : ∀ o, ops[p]? = some o → ∀ a' w K, (∀ t, (∀ p ∈ L, p.2 ≠ t) → a'.tmps.getD t undef = a.tmps.getD t undef) → (∀ q ∈ needOf ops p, Γ q.1 false w (a'.tmps.getD q.2 undef)) → I false w →
      (∀ v w', Γ p true w' v → (∀ i u, i ≠ p → Γ i false w u → Γ i true w' u) → I true w' → K (a'.put o.dst v) w') → o.wp P a' w K Q)
    (hend : ∀ (f : Nat → Value) w', (∀ q ∈ L, Γ q.1 true w' (f q.1)) → I true w' → wpList P ops Q R (L.foldl (fun b p => b.put (some p.2) (f p.1)) a) w') : (Code.region id ops true).wp P Q a w := by
  subst hL
  subst hR
  have keepL : ∀ (a' : Act), (∀ t, (∀ (j : Nat) o, j < k → ops[j]? = some o → o.dst ≠ some t) → a'.tmps.getD t undef = a.tmps.getD t undef) → ∀ t, (∀ p ∈ dstsOf ops k, p.2 ≠ t) → a'.tmps.getD t undef = a.tmps.getD t undef := by
    intro a' h t ht
    refine h t (fun j o hj ho hd => ?_)
    exact ht (j, t) (dstsOf_mem.2 ⟨hj, o, ho, hd⟩) rfl
  have hfl : ∀ j, (Array.replicate ops.size false).getD j false = false := by
    intro j
    simp [Array.getElem?_replicate]
    split <;> simp
  refine wp_region_any hmx (wpAny_thenP (Γ := Γ) (I := I) (p := p) (n := n) (a0 := a) hf hpk (fun j o hj hjp ho b a' w' K hc hk hnd hI hK => hop j o hj hjp ho b a' w' K hc (keepL a' hk) hnd hI hK) (fun o ho a' w' K hk hnd hI hK => hpp o ho a' w' K (keepL a' hk) hnd hI hK) ?_ ops.size _ a _ ⟨by simp, hn, rfl, fun _ _ => rfl, fun i _ => hfl i, fun j hl => absurd hl (by rw [hfl j]; simp), by rw [hfl p]; exact h0, fun j o d _ _ _ hl => absurd hl (by rw [hfl j]; simp)⟩ (by omega))
  intro a' w' hsz hdf hk hs hI
  have hdst : ∀ p ∈ dstsOf ops k, Γ p.1 true w' (a'.tmps.getD p.2 undef) ∧ p.2 < n := by
    intro p hp
    obtain ⟨h1, o, h2, h3⟩ := dstsOf_mem.1 hp
    exact ⟨hs p.1 o p.2 h1 h2 h3, (((thenB_at hf h2).2.1 h1).2 p.2 h3).1⟩
  obtain ⟨f, hfv⟩ : ∃ f : Nat → Value, ∀ p ∈ dstsOf ops k, f p.1 = a'.tmps.getD p.2 undef := by
    refine ⟨fun j => match (ops[j]?).bind (·.dst) with | some d => a'.tmps.getD d undef | none => undef, fun p hp => ?_⟩
    obtain ⟨_, o, h2, h3⟩ := dstsOf_mem.1 hp
    simp [h2, h3]
  have E := act_eqT hsz hdf (dstsOf ops k) f a hn rfl (fun p hp => ⟨(hdst p hp).2, (hfv p hp).symm⟩) (keepL a' hk)
  rw [E]
  exact hend f w' (fun p hp => by rw [hfv p hp]; exact (hdst p hp).1) hI
end
end Go.Proofs.Ythogonpjkngpjaa

namespace Go.Proofs.Ythogonpjkngpjaa
set_option maxRecDepth 100000
open Go.RowKit
structure Bd (W : World) (b0 : Nat) (w : World) (A : Option Addr) (N c : Nat) (L : List UInt8) : Prop where
  own : w.ownsRow b0 5 1 (.slice A N c) N (cellsOf L)
  keep : Below b0 W w
  low : b0 ≤ w.heap.size
  len : L.length = N
section
variable {W w w1 : World} {b0 : Nat} {A : Option Addr} {N c : Nat} {L : List UInt8}
theorem Bd.call (h : Bd W b0 w A N c L) (b : Below w.heap.size w w1) : Bd W b0 w1 A N c L := ⟨own_below h.own b, h.keep.trans (b.mono h.low), Nat.le_trans h.low b.size, h.len⟩
theorem Bd.row (h : Bd W b0 w A N c L) {g : Nat} {o : Obj} (hr : W.heap[g]? = some o) (hg : g < b0) : w.heap[g]? = some o := K.on h.keep hg hr
theorem Bd.rb (h : Bd W b0 w A N c L) {D : Option Addr} {ds : List UInt8} {B : Nat} (r : RB W B D ds) (hB : B ≤ b0) : RB w B D ds := r.below (h.keep.mono hB)
theorem Bd.to (h : Bd W b0 w A N c L) {M : Nat} {L' : List UInt8} (e : L = L') (hM : N = M) : Bd W b0 w A M c L' := by
  subst e
  subst hM
  exact h
theorem Bd.out {E : World} (h : Bd W b0 w A N c L) (hE : Below E.heap.size E W) (hb : E.heap.size ≤ b0) : w.ownsRow E.heap.size 5 1 (.slice A N c) N (cellsOf L) ∧ Below E.heap.size E w := ⟨own_base h.own hb, hE.trans (h.keep.mono hb)⟩
end
theorem wp_append_bd {P : Program} {o : Oper} {a : Act} {w : World} {K : Act → World → Prop} {Q : Exit → Act → World → Prop} {W : World} {b0 : Nat} {A : Option Addr} {N c : Nat} {L : List UInt8} (hP : P = Try.prog) (h0 : Bd W b0 w A N c L) (s x : Operand)
    (ho : o.op = .call { callee := .builtin .append, args := #[s, x], argTypes := #[34, 34] }) (hs : a.eval s = .slice A N c)
    (B : Nat) (D : Option Addr) (m d : Nat) (ds : List UInt8) (hx : a.eval x = .slice D m d) (hm : ds.length = m) (hr : RB w B D ds) (hn : N + m ≤ 67108864)
    (h : ∀ A2 c2 w', Bd W b0 w' A2 (N + m) c2 (L ++ ds) → w.grownBy w' (Value.slice A N c).ownBlock → K (a.put o.dst (.slice A2 (N + m) c2)) w') : o.wp P a w K Q := by
  subst hP
  have hl := h0.len
  obtain ⟨v', w', hrun, h2, h3, h4⟩ := run_append_b w o.type b0 (.slice A N c) L (by rw [hl]; exact h0.own) B D m d ds hm hr (by omega) h0.low
  unfold Oper.wp execOp
  simp only [ho, resolve, invoke, builtin, Sem.run_bind, Sem.run_pure, Result.andThen_ok, List.map_toArray, List.map_cons, List.map_nil, hs, hx, hrun]
  rw [List.length_append, hl, hm] at h2
  obtain ⟨A2, c2, rfl⟩ := own_form h2
  exact h A2 c2 w' ⟨h2, h0.keep.grown h3 h0.low (fun k hk => (h0.own.lt k hk).1), Nat.le_trans h0.low h3.size, by rw [List.length_append, hl, hm]⟩ h3
theorem wpList_append_bd {ops : Array Oper} {rest : List Oper} {o : Oper} {a : Act} {w : World} {Q : Exit → Act → World → Prop} {W : World} {b0 : Nat} {A : Option Addr} {N c : Nat} {L : List UInt8} (hgd : o.guard = none) (h0 : Bd W b0 w A N c L) (s x : Operand)
    (ho : o.op = .call { callee := .builtin .append, args := #[s, x], argTypes := #[34, 34] }) (hs : a.eval s = .slice A N c)
    (B : Nat) (D : Option Addr) (m d : Nat) (ds : List UInt8) (hx : a.eval x = .slice D m d) (hm : ds.length = m) (hr : RB w B D ds) (hn : N + m ≤ 67108864) (M : Nat) (hM : N + m = M)
    (h : ∀ A2 c2 w', Bd W b0 w' A2 M c2 (L ++ ds) → wpList Try.prog ops Q rest (a.put o.dst (.slice A2 M c2)) w') : wpList Try.prog ops Q (o :: rest) a w := by
  subst hM
  exact wpList_plain hgd fun K hK => wp_append_bd rfl h0 s x ho hs B D m d ds hx hm hr hn fun A2 c2 w' hb _ => hK _ _ (h A2 c2 w' hb)
section
variable {P : Program} {ops : Array Oper} {Q : Exit → Act → World → Prop}
theorem wp_region_apps {id : Nat} {a : Act} {w : World} (hmx : P.follows .mixedOrders = true) (k n : Nat) (L : List (Nat × Nat)) (R : List Oper) (F : List Fo) (hf : thenB ops n k = true) (hL : dstsOf ops k = L) (hR : ops.toList.drop k = R) (p dp : Nat) (hpk : p < k) (hpL : (p, dp) ∈ L) (hn : a.tmps.size = n)
    (hF : ∀ f ∈ F, match f with | .val _ => True | .own b _ _ => b = w.heap.size | .any => True | .rb _ _ => False)
    {W : World} {b0 : Nat} {A0 : Option Addr} {n0 c0 : Nat} {L0 : List UInt8} (h0 : Bd W b0 w A0 n0 c0 L0) (n1 : Nat) (L1 : List UInt8) (hl1 : L1.length = n1)
    (hop : ∀ (j : Nat) o, j < k → j ≠ p → ops[j]? = some o → ∀ a' v K, (∀ t, (∀ q ∈ L, q.2 ≠ t) → a'.tmps.getD t undef = a.tmps.getD t undef) → (∀ q ∈ needOf ops j, q.1 ≠ p → (F.getD q.1 .any).holds v (a'.tmps.getD q.2 undef)) → Below b0 W v → w.heap.size ≤ v.heap.size →
      (∀ u v', (F.getD j .any).holds v' u → Below v.heap.size v v' → K (a'.put o.dst u) v') → o.wp P a' v K Q)
    (hpp : ∀ o, ops[p]? = some o → ∀ a' v K, (∀ t, (∀ q ∈ L, q.2 ≠ t) → a'.tmps.getD t undef = a.tmps.getD t undef) → (∀ q ∈ needOf ops p, q.1 ≠ p → (F.getD q.1 .any).holds v (a'.tmps.getD q.2 undef)) → Bd W b0 v A0 n0 c0 L0 → w.heap.size ≤ v.heap.size →
      (∀ A c v', Bd W b0 v' A n1 c L1 → v.grownBy v' (Value.slice A0 n0 c0).ownBlock → K (a'.put o.dst (.slice A n1 c)) v') → o.wp P a' v K Q)
    (hend : ∀ (f : Nat → Value) v A c, (∀ q ∈ L, q.1 ≠ p → (F.getD q.1 .any).holds v (f q.1)) → f p = .slice A n1 c → Bd W b0 v A n1 c L1 → wpList P ops Q R (L.foldl (fun b q => b.put (some q.2) (f q.1)) a) v) : (Code.region id ops true).wp P Q a w := by
  have hlt : ∀ k, (Value.slice A0 n0 c0).ownBlock = some k → k < w.heap.size := fun k hk => (h0.own.lt k hk).2
  have hFj : ∀ i (v v' : World) (u : Value), v.grownBy v' (Value.slice A0 n0 c0).ownBlock → (F.getD i .any).holds v u → (F.getD i .any).holds v' u := by
    intro i v v' u hg hh
    by_cases hi : i < F.length
    · have hm := hF (F.getD i .any) (by rw [List.getD_eq_getElem?_getD, List.getElem?_eq_getElem hi]; exact List.getElem_mem hi)
      generalize F.getD i .any = f at hm hh ⊢
      cases f with
      | val u => exact hh
      | rb n bs => exact hm.elim
      | any => trivial
      | own b n bs =>
        obtain ⟨A, c, e, r⟩ := hh
        try simp only at hm
        subst hm
        exact ⟨A, c, e, own_grown r hg (fun k hk e => by have := (r.lt k hk).1; have := hlt k e; omega)⟩
    · have : F.getD i .any = .any := by rw [List.getD_eq_getElem?_getD, List.getElem?_eq_none (by omega)]; rfl
      rw [this]
      trivial
  refine wp_region_thenP hmx k n L R hf hL hR
    (fun j b v u => if j = p then (b = true → ∃ A c, u = .slice A n1 c ∧ v.ownsRow b0 5 1 (.slice A n1 c) n1 (cellsOf L1)) else (F.getD j .any).holds v u)
    (fun b v => Below b0 W v ∧ b0 ≤ v.heap.size ∧ w.heap.size ≤ v.heap.size ∧ (b = false → v.ownsRow b0 5 1 (.slice A0 n0 c0) n0 (cellsOf L0))) p hpk hn ?_ ?_ ?_ ?_
  · exact ⟨⟨h0.keep.os, h0.keep.tape, h0.keep.output, h0.keep.size, h0.keep.block⟩, h0.low, Nat.le_refl _, fun _ => h0.own⟩
  · intro j o hj hjp ho b a' v K _ hk hnd hI hK
    refine hop j o hj hjp ho a' v K hk (fun q hq hqp => by have := hnd q hq; rwa [if_neg hqp] at this) hI.1 hI.2.2.1 (fun u v' hu hb => hK u v' (by rw [if_neg hjp]; exact hu) (fun i x hx => ?_) ⟨hI.1.trans (hb.mono hI.2.1), Nat.le_trans hI.2.1 hb.size, Nat.le_trans hI.2.2.1 hb.size, fun e => own_below (hI.2.2.2 e) hb⟩)
    by_cases hip : i = p
    · rw [if_pos hip] at hx ⊢
      intro hb1
      obtain ⟨A, c, e, r⟩ := hx hb1
      exact ⟨A, c, e, own_below r hb⟩
    · rw [if_neg hip] at hx ⊢
      exact Fo.on hb _ _ hx
  · intro o ho a' v K hk hnd hI hK
    refine hpp o ho a' v K hk (fun q hq hqp => by have := hnd q hq; rwa [if_neg hqp] at this) ⟨hI.2.2.2 rfl, hI.1, hI.2.1, h0.len⟩ hI.2.2.1 (fun A c v' hb hg => hK _ v' (by rw [if_pos rfl]; exact fun _ => ⟨A, c, rfl, hb.own⟩) (fun i u hip hu => ?_) ⟨hb.keep, hb.low, Nat.le_trans hI.2.2.1 hg.size, fun e => by cases e⟩)
    rw [if_neg hip] at hu ⊢
    exact hFj i v v' u hg hu
  · intro f v hf' hI
    have hp := hf' (p, dp) hpL
    simp only [if_true] at hp
    obtain ⟨A, c, e, r⟩ := hp trivial
    exact hend f v A c (fun q hq hqp => by have := hf' q hq; rwa [if_neg hqp] at this) e ⟨r, hI.1, hI.2.1, hl1⟩
theorem apps_of {j p : Nat} {F : List Fo} {v : World} {a' : Act} (hnd : ∀ q ∈ needOf ops j, q.1 ≠ p → (F.getD q.1 .any).holds v (a'.tmps.getD q.2 undef)) (i t : Nat) (h : (needOf ops j).contains (i, t) = true) (hi : i ≠ p) : (F.getD i .any).holds v (a'.eval (.tmp t)) :=
  hnd (i, t) (by simpa using h) hi
end
end Go.Proofs.Ythogonpjkngpjaa

namespace Go.Proofs.Ythogonpjkngpjaa
set_option maxRecDepth 100000
open Go.RowKit
section
variable {o : Oper} {a : Act} {w : World} {K : Act → World → Prop} {Q : Exit → Act → World → Prop}
theorem u_fldU1 (x : Operand) (g : Nat) (ho : o.op = .fieldAddr 36 x 1) (hx : a.eval x = .pointer (some ⟨g, 0, none⟩)) (hK : K (a.put o.dst (.pointer (some ⟨g, 1, none⟩))) w) : o.wp Try.prog a w K Q := by
  unfold Oper.wp execOp
  simp only [ho, hx]
  go_simp
  exact hK
theorem u_fldU2 (x : Operand) (g : Nat) (ho : o.op = .fieldAddr 36 x 2) (hx : a.eval x = .pointer (some ⟨g, 0, none⟩)) (hK : K (a.put o.dst (.pointer (some ⟨g, 2, none⟩))) w) : o.wp Try.prog a w K Q := by
  unfold Oper.wp execOp
  simp only [ho, hx]
  go_simp
  exact hK
theorem u_fldU3 (x : Operand) (g : Nat) (ho : o.op = .fieldAddr 36 x 3) (hx : a.eval x = .pointer (some ⟨g, 0, none⟩)) (hK : K (a.put o.dst (.pointer (some ⟨g, 3, none⟩))) w) : o.wp Try.prog a w K Q := by
  unfold Oper.wp execOp
  simp only [ho, hx]
  go_simp
  exact hK
theorem u_fldU4 (x : Operand) (g : Nat) (ho : o.op = .fieldAddr 36 x 4) (hx : a.eval x = .pointer (some ⟨g, 0, none⟩)) (hK : K (a.put o.dst (.pointer (some ⟨g, 4, none⟩))) w) : o.wp Try.prog a w K Q := by
  unfold Oper.wp execOp
  simp only [ho, hx]
  go_simp
  exact hK
theorem u_fldU5 (x : Operand) (g : Nat) (ho : o.op = .fieldAddr 36 x 5) (hx : a.eval x = .pointer (some ⟨g, 0, none⟩)) (hK : K (a.put o.dst (.pointer (some ⟨g, 5, none⟩))) w) : o.wp Try.prog a w K Q := by
  unfold Oper.wp execOp
  simp only [ho, hx]
  go_simp
  exact hK
theorem u_fldU7 (x : Operand) (g : Nat) (ho : o.op = .fieldAddr 36 x 7) (hx : a.eval x = .pointer (some ⟨g, 0, none⟩)) (hK : K (a.put o.dst (.pointer (some ⟨g, 7, none⟩))) w) : o.wp Try.prog a w K Q := by
  unfold Oper.wp execOp
  simp only [ho, hx]
  go_simp
  exact hK
theorem u_fldU8 (x : Operand) (g : Nat) (ho : o.op = .fieldAddr 36 x 8) (hx : a.eval x = .pointer (some ⟨g, 0, none⟩)) (hK : K (a.put o.dst (.pointer (some ⟨g, 8, none⟩))) w) : o.wp Try.prog a w K Q := by
  unfold Oper.wp execOp
  simp only [ho, hx]
  go_simp
  exact hK
theorem u_fldU9 (x : Operand) (g : Nat) (ho : o.op = .fieldAddr 36 x 9) (hx : a.eval x = .pointer (some ⟨g, 0, none⟩)) (hK : K (a.put o.dst (.pointer (some ⟨g, 9, none⟩))) w) : o.wp Try.prog a w K Q := by
  unfold Oper.wp execOp
  simp only [ho, hx]
  go_simp
  exact hK
theorem u_fldU10 (x : Operand) (g : Nat) (ho : o.op = .fieldAddr 36 x 10) (hx : a.eval x = .pointer (some ⟨g, 0, none⟩)) (hK : K (a.put o.dst (.pointer (some ⟨g, 10, none⟩))) w) : o.wp Try.prog a w K Q := by
  unfold Oper.wp execOp
  simp only [ho, hx]
  go_simp
  exact hK
theorem u_fldU12 (x : Operand) (g : Nat) (ho : o.op = .fieldAddr 36 x 12) (hx : a.eval x = .pointer (some ⟨g, 0, none⟩)) (hK : K (a.put o.dst (.pointer (some ⟨g, 12, none⟩))) w) : o.wp Try.prog a w K Q := by
  unfold Oper.wp execOp
  simp only [ho, hx]
  go_simp
  exact hK
theorem u_fldU13 (x : Operand) (g : Nat) (ho : o.op = .fieldAddr 36 x 13) (hx : a.eval x = .pointer (some ⟨g, 0, none⟩)) (hK : K (a.put o.dst (.pointer (some ⟨g, 13, none⟩))) w) : o.wp Try.prog a w K Q := by
  unfold Oper.wp execOp
  simp only [ho, hx]
  go_simp
  exact hK
theorem u_other_headSize (x : Operand) (name : String) (v : Value) (ts : Array TypeId) (ho : o.op = .call { callee := .invoke x name, args := #[], argTypes := ts }) (hx : a.eval x = .iface 109 v) (hm : ∀ k, (method (k + 1) 109 v name).run Try.prog w = .ok (145, v) w)
    (h : Calls Try.prog 145 #[v] w fun e w' => ∃ r, e = .returned r ∧ K (a.put o.dst r) w') : o.wp Try.prog a w K Q := by
  unfold Oper.wp execOp
  simp only [ho, resolve, List.map_toArray, List.map_nil, hx]
  go_simp
  exact h.mono fun e w' ⟨u, he, hk⟩ => by subst he; exact hk
theorem u_fld_tcp (x : Operand) (g : Nat) (ho : o.op = .fieldAddr 110 x 0) (hx : a.eval x = .pointer (some ⟨g, 0, none⟩)) (hK : K (a.put o.dst (.pointer (some ⟨g, 0, none⟩))) w) : o.wp Try.prog a w K Q := by
  unfold Oper.wp execOp
  simp only [ho, hx]
  go_simp
  exact hK
theorem u_tcp_headSize (x : Operand) (name : String) (v : Value) (ts : Array TypeId) (ho : o.op = .call { callee := .invoke x name, args := #[], argTypes := ts }) (hx : a.eval x = .iface 110 v) (hm : ∀ k, (method (k + 1) 110 v name).run Try.prog w = .ok (121, v) w)
    (h : Calls Try.prog 121 #[v] w fun e w' => ∃ r, e = .returned r ∧ K (a.put o.dst r) w') : o.wp Try.prog a w K Q := by
  unfold Oper.wp execOp
  simp only [ho, resolve, List.map_toArray, List.map_nil, hx]
  go_simp
  exact h.mono fun e w' ⟨u, he, hk⟩ => by subst he; exact hk
theorem u_fld_udp (x : Operand) (g : Nat) (ho : o.op = .fieldAddr 111 x 0) (hx : a.eval x = .pointer (some ⟨g, 0, none⟩)) (hK : K (a.put o.dst (.pointer (some ⟨g, 0, none⟩))) w) : o.wp Try.prog a w K Q := by
  unfold Oper.wp execOp
  simp only [ho, hx]
  go_simp
  exact hK
theorem u_udp_headSize (x : Operand) (name : String) (v : Value) (ts : Array TypeId) (ho : o.op = .call { callee := .invoke x name, args := #[], argTypes := ts }) (hx : a.eval x = .iface 111 v) (hm : ∀ k, (method (k + 1) 111 v name).run Try.prog w = .ok (151, v) w)
    (h : Calls Try.prog 151 #[v] w fun e w' => ∃ r, e = .returned r ∧ K (a.put o.dst r) w') : o.wp Try.prog a w K Q := by
  unfold Oper.wp execOp
  simp only [ho, resolve, List.map_toArray, List.map_nil, hx]
  go_simp
  exact h.mono fun e w' ⟨u, he, hk⟩ => by subst he; exact hk
theorem u_fld_icmp (x : Operand) (g : Nat) (ho : o.op = .fieldAddr 112 x 0) (hx : a.eval x = .pointer (some ⟨g, 0, none⟩)) (hK : K (a.put o.dst (.pointer (some ⟨g, 0, none⟩))) w) : o.wp Try.prog a w K Q := by
  unfold Oper.wp execOp
  simp only [ho, hx]
  go_simp
  exact hK
theorem u_icmp_headSize (x : Operand) (name : String) (v : Value) (ts : Array TypeId) (ho : o.op = .call { callee := .invoke x name, args := #[], argTypes := ts }) (hx : a.eval x = .iface 112 v) (hm : ∀ k, (method (k + 1) 112 v name).run Try.prog w = .ok (154, v) w)
    (h : Calls Try.prog 154 #[v] w fun e w' => ∃ r, e = .returned r ∧ K (a.put o.dst r) w') : o.wp Try.prog a w K Q := by
  unfold Oper.wp execOp
  simp only [ho, resolve, List.map_toArray, List.map_nil, hx]
  go_simp
  exact h.mono fun e w' ⟨u, he, hk⟩ => by subst he; exact hk
end
end Go.Proofs.Ythogonpjkngpjaa

namespace Go.Proofs.Ythogonpjkngpjaa
set_option maxRecDepth 100000
open Go.RowKit
def fmtV (k : Int) (v : Value) : Value := if k = 0 then .iface 109 v else if k = 1 then .iface 110 v else if k = 2 then .iface 111 v else if k = 3 then .iface 112 v else .nilIface
set_option maxHeartbeats 2000000 in
theorem formatOfC (x : Uh) (A D : Option Addr) (n c m d : Nat) (w : World) : Calls Try.prog 47 #[.agg #[.int .i64 x.kind, .int .i64 x.sport, .int .i64 x.dport, .int .i64 x.seq, .int .i64 x.ack, .int .i64 x.bits, .int .i64 x.window, .int .i64 x.urgent, .int .i64 x.ty, .int .i64 x.code, .int .i64 x.rest, .bool x.nosum, .slice A n c, .slice D m d]] w fun e w' => e = .returned (fmtV x.kind (.agg #[.int .i64 x.kind, .int .i64 x.sport, .int .i64 x.dport, .int .i64 x.seq, .int .i64 x.ack, .int .i64 x.bits, .int .i64 x.window, .int .i64 x.urgent, .int .i64 x.ty, .int .i64 x.code, .int .i64 x.rest, .bool x.nosum, .slice A n c, .slice D m d])) ∧ w' = w.alloc (.cells #[.int .i64 x.kind, .int .i64 x.sport, .int .i64 x.dport, .int .i64 x.seq, .int .i64 x.ack, .int .i64 x.bits, .int .i64 x.window, .int .i64 x.urgent, .int .i64 x.ty, .int .i64 x.code, .int .i64 x.rest, .bool x.nosum, .slice A n c, .slice D m d] 36) := by
  have q := Lib.hid (K.new w (.cells #[.int .i64 x.kind, .int .i64 x.sport, .int .i64 x.dport, .int .i64 x.seq, .int .i64 x.ack, .int .i64 x.bits, .int .i64 x.window, .int .i64 x.urgent, .int .i64 x.ty, .int .i64 x.code, .int .i64 x.rest, .bool x.nosum, .slice A n c, .slice D m d] 36))
  have hk : x.kind = 0 ∨ x.kind = 1 ∨ x.kind = 2 ∨ x.kind = 3 ∨ (x.kind ≠ 0 ∧ x.kind ≠ 1 ∧ x.kind ≠ 2 ∧ x.kind ≠ 3) := by omega
  obtain ⟨kind, sport, dport, seq, ack, bits, window, urgent, ty, code, rest, nosum⟩ := x
  try simp only at hk q ⊢
  rcases hk with rfl | rfl | rfl | rfl | ⟨k0, k1, k2, k3⟩
  · go_enter Try.func47, Try.ntmps47
    go_wp2_with (with_reducible refine loadU rfl _ rfl w.heap.size rfl q.out ?_)
    go_ret
    exact ⟨rfl, rfl⟩
  · go_enter Try.func47, Try.ntmps47
    go_wp2_with (with_reducible refine loadU rfl _ rfl w.heap.size rfl q.out ?_)
    go_ret
    exact ⟨rfl, rfl⟩
  · go_enter Try.func47, Try.ntmps47
    go_wp2_with (with_reducible refine loadU rfl _ rfl w.heap.size rfl q.out ?_)
    go_ret
    exact ⟨rfl, rfl⟩
  · go_enter Try.func47, Try.ntmps47
    go_wp2_with (with_reducible refine loadU rfl _ rfl w.heap.size rfl q.out ?_)
    go_ret
    exact ⟨rfl, rfl⟩
  · go_enter Try.func47, Try.ntmps47
    go_wp2_with (with_reducible refine loadU rfl _ rfl w.heap.size rfl q.out ?_)
    go_ret
    exact ⟨by simp [fmtV, k0, k1, k2, k3], rfl⟩
set_option maxHeartbeats 2000000 in
theorem specUpSize (x : Uh) (A D : Option Addr) (n c m d : Nat) (w : World) (hn : n ≤ 1048576) (hm : m ≤ 1048576) : Calls Try.prog 61 #[.agg #[.int .i64 x.kind, .int .i64 x.sport, .int .i64 x.dport, .int .i64 x.seq, .int .i64 x.ack, .int .i64 x.bits, .int .i64 x.window, .int .i64 x.urgent, .int .i64 x.ty, .int .i64 x.code, .int .i64 x.rest, .bool x.nosum, .slice A n c, .slice D m d]] w fun e w' => e = .returned (.int .i64 (x.size n m)) ∧ Below w.heap.size w w' := by
  have hk : x.kind = 0 ∨ x.kind = 1 ∨ x.kind = 2 ∨ x.kind = 3 ∨ (x.kind ≠ 0 ∧ x.kind ≠ 1 ∧ x.kind ≠ 2 ∧ x.kind ≠ 3) := by omega
  obtain ⟨kind, sport, dport, seq, ack, bits, window, urgent, ty, code, rest, nosum⟩ := x
  try simp only at hk ⊢
  rcases hk with rfl | rfl | rfl | rfl | ⟨k0, k1, k2, k3⟩
  · go_enter Try.func61, Try.ntmps61
    go_wp2
    go_ret
    exact ⟨rfl, Joins.below_alloc1 w _⟩
  · go_enter Try.func61, Try.ntmps61
    go_wp2
    go_ret
    exact ⟨rfl, Joins.below_alloc1 w _⟩
  · go_enter Try.func61, Try.ntmps61
    go_wp2
    go_ret
    exact ⟨rfl, Joins.below_alloc1 w _⟩
  · go_enter Try.func61, Try.ntmps61
    go_wp2
    go_ret
    exact ⟨rfl, Joins.below_alloc1 w _⟩
  · go_enter Try.func61, Try.ntmps61
    go_wp2
    go_ret
    exact ⟨by simp [Uh.size, k0, k1, k2, k3], Joins.below_alloc1 w _⟩
end Go.Proofs.Ythogonpjkngpjaa

namespace Go.Proofs.Ythogonpjkngpjaa
set_option maxRecDepth 100000
open Go.RowKit
inductive Fc where
  | val (v : Value)
  | rb (n : Nat) (bs : List UInt8)
  | any
def Fc.holds : Fc → World → Value → Prop
  | .val u, _, v => v = u
  | .rb n bs, w, v => ∃ A c, v = .slice A n c ∧ RB w w.heap.size A bs
  | .any, _, _ => True
theorem Fc.on {w w' : World} (hb : Below w.heap.size w w') (f : Fc) (v : Value) (h : f.holds w v) : f.holds w' v := by
  cases f with
  | val u => exact h
  | rb n bs =>
    obtain ⟨A, c, e, r⟩ := h
    exact ⟨A, c, e, (r.below hb).more hb.size⟩
  | any => trivial
section
variable {P : Program} {ops : Array Oper} {Q : Exit → Act → World → Prop}
theorem wp_region_facts {id : Nat} {a : Act} {w : World} (hmx : P.follows .mixedOrders = true) (k n : Nat) (L : List (Nat × Nat)) (R : List Oper) (F : List Fc) (hf : thenB ops n k = true) (hL : dstsOf ops k = L) (hR : ops.toList.drop k = R) (hn : a.tmps.size = n)
    (hop : ∀ (j : Nat) o, j < k → ops[j]? = some o → ∀ a' v K, (∀ t, (∀ p ∈ L, p.2 ≠ t) → a'.tmps.getD t undef = a.tmps.getD t undef) → (∀ p ∈ needOf ops j, (F.getD p.1 .any).holds v (a'.tmps.getD p.2 undef)) → Below w.heap.size w v →
      (∀ u v', (F.getD j .any).holds v' u → Below v.heap.size v v' → K (a'.put o.dst u) v') → o.wp P a' v K Q)
    (hend : ∀ (f : Nat → Value) v, (∀ p ∈ L, (F.getD p.1 .any).holds v (f p.1)) → Below w.heap.size w v → wpList P ops Q R (L.foldl (fun b p => b.put (some p.2) (f p.1)) a) v) : (Code.region id ops true).wp P Q a w := by
  refine wp_region_then hmx k n L R hf hL hR (fun j v u => (F.getD j .any).holds v u) (fun v => Below w.heap.size w v) hn ⟨rfl, rfl, rfl, Nat.le_refl _, fun _ _ => rfl⟩ ?_ (fun f v hf hB => hend f v hf hB)
  intro j o hj ho a' v K hk hnd hB hK
  exact hop j o hj ho a' v K hk hnd hB (fun u v' hu hb => hK u v' hu (fun i x hx => Fc.on hb _ _ hx) (bthen hB hb))
theorem fact_of {j : Nat} {F : List Fc} {v : World} {a' : Act} (hnd : ∀ p ∈ needOf ops j, (F.getD p.1 .any).holds v (a'.tmps.getD p.2 undef)) (i t : Nat) (h : (needOf ops j).contains (i, t) = true) : (F.getD i .any).holds v (a'.eval (.tmp t)) :=
  hnd (i, t) (by simpa using h)
end
end Go.Proofs.Ythogonpjkngpjaa

namespace Go.Proofs.Ythogonpjkngpjaa
set_option maxRecDepth 100000
open Go.RowKit
set_option maxHeartbeats 1000000 in
theorem head_other (x : Uh) (A D : Option Addr) (n c m d : Nat) (w : World) (_hn : n ≤ 1048576) : Calls Try.prog 145 #[.agg #[.int .i64 x.kind, .int .i64 x.sport, .int .i64 x.dport, .int .i64 x.seq, .int .i64 x.ack, .int .i64 x.bits, .int .i64 x.window, .int .i64 x.urgent, .int .i64 x.ty, .int .i64 x.code, .int .i64 x.rest, .bool x.nosum, .slice A n c, .slice D m d]] w fun e w' => e = .returned (.int .i64 (0 : Int)) ∧ Below w.heap.size w w' := by
  go_enter Try.func145, Try.ntmps145
  go_wp2
  go_ret
  exact ⟨rfl, Joins.below_alloc1 w _⟩
set_option maxHeartbeats 1000000 in
theorem head_tcp (x : Uh) (A D : Option Addr) (n c m d : Nat) (w : World) (_hn : n ≤ 1048576) : Calls Try.prog 121 #[.agg #[.int .i64 x.kind, .int .i64 x.sport, .int .i64 x.dport, .int .i64 x.seq, .int .i64 x.ack, .int .i64 x.bits, .int .i64 x.window, .int .i64 x.urgent, .int .i64 x.ty, .int .i64 x.code, .int .i64 x.rest, .bool x.nosum, .slice A n c, .slice D m d]] w fun e w' => e = .returned (.int .i64 (20 + (n : Int))) ∧ Below w.heap.size w w' := by
  go_enter Try.func121, Try.ntmps121
  go_wp2
  go_ret
  exact ⟨rfl, Joins.below_alloc1 w _⟩
set_option maxHeartbeats 1000000 in
theorem head_udp (x : Uh) (A D : Option Addr) (n c m d : Nat) (w : World) (_hn : n ≤ 1048576) : Calls Try.prog 151 #[.agg #[.int .i64 x.kind, .int .i64 x.sport, .int .i64 x.dport, .int .i64 x.seq, .int .i64 x.ack, .int .i64 x.bits, .int .i64 x.window, .int .i64 x.urgent, .int .i64 x.ty, .int .i64 x.code, .int .i64 x.rest, .bool x.nosum, .slice A n c, .slice D m d]] w fun e w' => e = .returned (.int .i64 (8 : Int)) ∧ Below w.heap.size w w' := by
  go_enter Try.func151, Try.ntmps151
  go_wp2
  go_ret
  exact ⟨rfl, Joins.below_alloc1 w _⟩
set_option maxHeartbeats 1000000 in
theorem head_icmp (x : Uh) (A D : Option Addr) (n c m d : Nat) (w : World) (_hn : n ≤ 1048576) : Calls Try.prog 154 #[.agg #[.int .i64 x.kind, .int .i64 x.sport, .int .i64 x.dport, .int .i64 x.seq, .int .i64 x.ack, .int .i64 x.bits, .int .i64 x.window, .int .i64 x.urgent, .int .i64 x.ty, .int .i64 x.code, .int .i64 x.rest, .bool x.nosum, .slice A n c, .slice D m d]] w fun e w' => e = .returned (.int .i64 (8 : Int)) ∧ Below w.heap.size w w' := by
  go_enter Try.func154, Try.ntmps154
  go_wp2
  go_ret
  exact ⟨rfl, Joins.below_alloc1 w _⟩
set_option maxHeartbeats 2000000 in
theorem implUpSize0 (x : Uh) (A D : Option Addr) (n c m d : Nat) (w : World) (hn : n ≤ 1048576) (hm : m ≤ 1048576) (hk : x.kind = 0) : Calls Try.prog 102 #[.agg #[.int .i64 x.kind, .int .i64 x.sport, .int .i64 x.dport, .int .i64 x.seq, .int .i64 x.ack, .int .i64 x.bits, .int .i64 x.window, .int .i64 x.urgent, .int .i64 x.ty, .int .i64 x.code, .int .i64 x.rest, .bool x.nosum, .slice A n c, .slice D m d]] w fun e w' => e = .returned (.int .i64 (x.size n m)) ∧ Below w.heap.size w w' := by
  obtain ⟨kind, sport, dport, seq, ack, bits, window, urgent, ty, code, rest, nosum⟩ := x
  try simp only at hk
  subst hk
  have q := Lib.hid (K.new w (.cells #[.int .i64 0, .int .i64 sport, .int .i64 dport, .int .i64 seq, .int .i64 ack, .int .i64 bits, .int .i64 window, .int .i64 urgent, .int .i64 ty, .int .i64 code, .int .i64 rest, .bool nosum, .slice A n c, .slice D m d] 36))
  have q1 := Lib.hid (K.old q.out (.cells #[.int .i64 0, .int .i64 sport, .int .i64 dport, .int .i64 seq, .int .i64 ack, .int .i64 bits, .int .i64 window, .int .i64 urgent, .int .i64 ty, .int .i64 code, .int .i64 rest, .bool nosum, .slice A n c, .slice D m d] 36))
  try simp only at q q1 ⊢
  go_enter Try.func102, Try.ntmps102
  go_wp2_with (with_reducible refine loadU rfl _ rfl w.heap.size rfl q.out ?_)
  refine Calls.mono (formatOfC ⟨0, sport, dport, seq, ack, bits, window, urgent, ty, code, rest, nosum⟩ A D n c m d _) ?_
  rintro e w1 ⟨rfl, rfl⟩
  simp only [show ∀ v, fmtV 0 v = .iface 109 v from fun _ => rfl]
  go_wp2_with fail
  refine wp_region_facts (by kernel_rfl) 6 14 [(0, 8), (1, 9), (2, 10), (3, 11), (4, 12), (5, 13)] _ ([.val (.iface 109 (.agg #[.int .i64 0, .int .i64 sport, .int .i64 dport, .int .i64 seq, .int .i64 ack, .int .i64 bits, .int .i64 window, .int .i64 urgent, .int .i64 ty, .int .i64 code, .int .i64 rest, .bool nosum, .slice A n c, .slice D m d])), .val (.int .i64 (0 : Int)), .val (.pointer (some ⟨w.heap.size, 13, none⟩)), .val (.slice D m d), .val (.int .i64 (m : Int)), .val (.int .i64 ((0 : Int) + m))]) (by kernel_rfl) (by kernel_rfl) rfl rfl ?_ ?_
  · intro j o hj ho a' v K' hx hnd hB hK
    match j, hj, ho with
    | 0, _, ho =>
      obtain rfl := Option.some.inj ho
      have h0 : a'.eval (.tmp 3) = .iface 109 (.agg #[.int .i64 0, .int .i64 sport, .int .i64 dport, .int .i64 seq, .int .i64 ack, .int .i64 bits, .int .i64 window, .int .i64 urgent, .int .i64 ty, .int .i64 code, .int .i64 rest, .bool nosum, .slice A n c, .slice D m d]) := (hx 3 (by decide)).trans rfl
      exact u_move _ _ rfl h0 (hK _ _ rfl (Below.refl _ _))
    | 1, _, ho =>
      obtain rfl := Option.some.inj ho
      have h0 : a'.eval (.tmp 8) = .iface 109 (.agg #[.int .i64 0, .int .i64 sport, .int .i64 dport, .int .i64 seq, .int .i64 ack, .int .i64 bits, .int .i64 window, .int .i64 urgent, .int .i64 ty, .int .i64 code, .int .i64 rest, .bool nosum, .slice A n c, .slice D m d]) := (fact_of hnd 0 8 (by kernel_rfl) :)
      refine u_other_headSize _ _ _ _ rfl h0 (fun k => by kernel_rfl) (Calls.mono (head_other (Uh.mk 0 sport dport seq ack bits window urgent ty code rest nosum) A D n c m d v hn) ?_)
      rintro e' v' ⟨rfl, b6⟩
      exact ⟨_, rfl, hK _ _ rfl b6⟩
    | 2, _, ho =>
      obtain rfl := Option.some.inj ho
      have h0 : a'.eval (.tmp 1) = .pointer (some ⟨w.heap.size, 0, none⟩) := (hx 1 (by decide)).trans rfl
      exact u_fldU13 _ _ rfl h0 (hK _ _ rfl (Below.refl _ _))
    | 3, _, ho =>
      obtain rfl := Option.some.inj ho
      have h0 : a'.eval (.tmp 10) = .pointer (some ⟨w.heap.size, 13, none⟩) := (fact_of hnd 2 10 (by kernel_rfl) :)
      exact u_bytes _ _ _ _ rfl h0 (K.cell (K.below hB q1.out) 13 _ rfl) (hK _ _ rfl (Below.refl _ _))
    | 4, _, ho =>
      obtain rfl := Option.some.inj ho
      have h0 : a'.eval (.tmp 11) = .slice D m d := (fact_of hnd 3 11 (by kernel_rfl) :)
      exact u_lenB _ _ _ _ rfl h0 (hK _ _ rfl (Below.refl _ _))
    | 5, _, ho =>
      obtain rfl := Option.some.inj ho
      have h0 : a'.eval (.tmp 9) = .int .i64 (0 : Int) := (fact_of hnd 1 9 (by kernel_rfl) :)
      have h1 : a'.eval (.tmp 12) = .int .i64 (m : Int) := (fact_of hnd 4 12 (by kernel_rfl) :)
      exact u_add _ _ _ _ rfl h0 h1 (by omega) (by omega) (by omega) (by omega) (hK _ _ rfl (Below.refl _ _))
    | j + 6, hj, _ => omega
  · intro f v hf hB
    have e0 : f 0 = (.iface 109 (.agg #[.int .i64 0, .int .i64 sport, .int .i64 dport, .int .i64 seq, .int .i64 ack, .int .i64 bits, .int .i64 window, .int .i64 urgent, .int .i64 ty, .int .i64 code, .int .i64 rest, .bool nosum, .slice A n c, .slice D m d])) := hf (0, 8) (by decide)
    have e1 : f 1 = (.int .i64 (0 : Int)) := hf (1, 9) (by decide)
    have e2 : f 2 = (.pointer (some ⟨w.heap.size, 13, none⟩)) := hf (2, 10) (by decide)
    have e3 : f 3 = (.slice D m d) := hf (3, 11) (by decide)
    have e4 : f 4 = (.int .i64 (m : Int)) := hf (4, 12) (by decide)
    have e5 : f 5 = (.int .i64 ((0 : Int) + m)) := hf (5, 13) (by decide)
    simp only [List.foldl_cons, List.foldl_nil, List.drop_succ_cons, List.drop_zero, e0, e1, e2, e3, e4, e5]
    clear e0 e1 e2 e3 e4 e5 hf
    go_simp
    go_wp2
    go_ret
    exact ⟨by simp [Uh.size], bthen (by go_grown) hB⟩
set_option maxHeartbeats 2000000 in
theorem implUpSize1 (x : Uh) (A D : Option Addr) (n c m d : Nat) (w : World) (hn : n ≤ 1048576) (hm : m ≤ 1048576) (hk : x.kind = 1) : Calls Try.prog 102 #[.agg #[.int .i64 x.kind, .int .i64 x.sport, .int .i64 x.dport, .int .i64 x.seq, .int .i64 x.ack, .int .i64 x.bits, .int .i64 x.window, .int .i64 x.urgent, .int .i64 x.ty, .int .i64 x.code, .int .i64 x.rest, .bool x.nosum, .slice A n c, .slice D m d]] w fun e w' => e = .returned (.int .i64 (x.size n m)) ∧ Below w.heap.size w w' := by
  obtain ⟨kind, sport, dport, seq, ack, bits, window, urgent, ty, code, rest, nosum⟩ := x
  try simp only at hk
  subst hk
  have q := Lib.hid (K.new w (.cells #[.int .i64 1, .int .i64 sport, .int .i64 dport, .int .i64 seq, .int .i64 ack, .int .i64 bits, .int .i64 window, .int .i64 urgent, .int .i64 ty, .int .i64 code, .int .i64 rest, .bool nosum, .slice A n c, .slice D m d] 36))
  have q1 := Lib.hid (K.old q.out (.cells #[.int .i64 1, .int .i64 sport, .int .i64 dport, .int .i64 seq, .int .i64 ack, .int .i64 bits, .int .i64 window, .int .i64 urgent, .int .i64 ty, .int .i64 code, .int .i64 rest, .bool nosum, .slice A n c, .slice D m d] 36))
  try simp only at q q1 ⊢
  go_enter Try.func102, Try.ntmps102
  go_wp2_with (with_reducible refine loadU rfl _ rfl w.heap.size rfl q.out ?_)
  refine Calls.mono (formatOfC ⟨1, sport, dport, seq, ack, bits, window, urgent, ty, code, rest, nosum⟩ A D n c m d _) ?_
  rintro e w1 ⟨rfl, rfl⟩
  simp only [show ∀ v, fmtV 1 v = .iface 110 v from fun _ => rfl]
  go_wp2_with fail
  refine wp_region_facts (by kernel_rfl) 6 14 [(0, 8), (1, 9), (2, 10), (3, 11), (4, 12), (5, 13)] _ ([.val (.iface 110 (.agg #[.int .i64 1, .int .i64 sport, .int .i64 dport, .int .i64 seq, .int .i64 ack, .int .i64 bits, .int .i64 window, .int .i64 urgent, .int .i64 ty, .int .i64 code, .int .i64 rest, .bool nosum, .slice A n c, .slice D m d])), .val (.int .i64 (20 + (n : Int))), .val (.pointer (some ⟨w.heap.size, 13, none⟩)), .val (.slice D m d), .val (.int .i64 (m : Int)), .val (.int .i64 ((20 + (n : Int)) + m))]) (by kernel_rfl) (by kernel_rfl) rfl rfl ?_ ?_
  · intro j o hj ho a' v K' hx hnd hB hK
    match j, hj, ho with
    | 0, _, ho =>
      obtain rfl := Option.some.inj ho
      have h0 : a'.eval (.tmp 3) = .iface 110 (.agg #[.int .i64 1, .int .i64 sport, .int .i64 dport, .int .i64 seq, .int .i64 ack, .int .i64 bits, .int .i64 window, .int .i64 urgent, .int .i64 ty, .int .i64 code, .int .i64 rest, .bool nosum, .slice A n c, .slice D m d]) := (hx 3 (by decide)).trans rfl
      exact u_move _ _ rfl h0 (hK _ _ rfl (Below.refl _ _))
    | 1, _, ho =>
      obtain rfl := Option.some.inj ho
      have h0 : a'.eval (.tmp 8) = .iface 110 (.agg #[.int .i64 1, .int .i64 sport, .int .i64 dport, .int .i64 seq, .int .i64 ack, .int .i64 bits, .int .i64 window, .int .i64 urgent, .int .i64 ty, .int .i64 code, .int .i64 rest, .bool nosum, .slice A n c, .slice D m d]) := (fact_of hnd 0 8 (by kernel_rfl) :)
      refine u_tcp_headSize _ _ _ _ rfl h0 (fun k => by kernel_rfl) (Calls.mono (head_tcp (Uh.mk 1 sport dport seq ack bits window urgent ty code rest nosum) A D n c m d v hn) ?_)
      rintro e' v' ⟨rfl, b6⟩
      exact ⟨_, rfl, hK _ _ rfl b6⟩
    | 2, _, ho =>
      obtain rfl := Option.some.inj ho
      have h0 : a'.eval (.tmp 1) = .pointer (some ⟨w.heap.size, 0, none⟩) := (hx 1 (by decide)).trans rfl
      exact u_fldU13 _ _ rfl h0 (hK _ _ rfl (Below.refl _ _))
    | 3, _, ho =>
      obtain rfl := Option.some.inj ho
      have h0 : a'.eval (.tmp 10) = .pointer (some ⟨w.heap.size, 13, none⟩) := (fact_of hnd 2 10 (by kernel_rfl) :)
      exact u_bytes _ _ _ _ rfl h0 (K.cell (K.below hB q1.out) 13 _ rfl) (hK _ _ rfl (Below.refl _ _))
    | 4, _, ho =>
      obtain rfl := Option.some.inj ho
      have h0 : a'.eval (.tmp 11) = .slice D m d := (fact_of hnd 3 11 (by kernel_rfl) :)
      exact u_lenB _ _ _ _ rfl h0 (hK _ _ rfl (Below.refl _ _))
    | 5, _, ho =>
      obtain rfl := Option.some.inj ho
      have h0 : a'.eval (.tmp 9) = .int .i64 (20 + (n : Int)) := (fact_of hnd 1 9 (by kernel_rfl) :)
      have h1 : a'.eval (.tmp 12) = .int .i64 (m : Int) := (fact_of hnd 4 12 (by kernel_rfl) :)
      exact u_add _ _ _ _ rfl h0 h1 (by omega) (by omega) (by omega) (by omega) (hK _ _ rfl (Below.refl _ _))
    | j + 6, hj, _ => omega
  · intro f v hf hB
    have e0 : f 0 = (.iface 110 (.agg #[.int .i64 1, .int .i64 sport, .int .i64 dport, .int .i64 seq, .int .i64 ack, .int .i64 bits, .int .i64 window, .int .i64 urgent, .int .i64 ty, .int .i64 code, .int .i64 rest, .bool nosum, .slice A n c, .slice D m d])) := hf (0, 8) (by decide)
    have e1 : f 1 = (.int .i64 (20 + (n : Int))) := hf (1, 9) (by decide)
    have e2 : f 2 = (.pointer (some ⟨w.heap.size, 13, none⟩)) := hf (2, 10) (by decide)
    have e3 : f 3 = (.slice D m d) := hf (3, 11) (by decide)
    have e4 : f 4 = (.int .i64 (m : Int)) := hf (4, 12) (by decide)
    have e5 : f 5 = (.int .i64 ((20 + (n : Int)) + m)) := hf (5, 13) (by decide)
    simp only [List.foldl_cons, List.foldl_nil, List.drop_succ_cons, List.drop_zero, e0, e1, e2, e3, e4, e5]
    clear e0 e1 e2 e3 e4 e5 hf
    go_simp
    go_wp2
    go_ret
    exact ⟨rfl, bthen (by go_grown) hB⟩
set_option maxHeartbeats 2000000 in
theorem implUpSize2 (x : Uh) (A D : Option Addr) (n c m d : Nat) (w : World) (hn : n ≤ 1048576) (hm : m ≤ 1048576) (hk : x.kind = 2) : Calls Try.prog 102 #[.agg #[.int .i64 x.kind, .int .i64 x.sport, .int .i64 x.dport, .int .i64 x.seq, .int .i64 x.ack, .int .i64 x.bits, .int .i64 x.window, .int .i64 x.urgent, .int .i64 x.ty, .int .i64 x.code, .int .i64 x.rest, .bool x.nosum, .slice A n c, .slice D m d]] w fun e w' => e = .returned (.int .i64 (x.size n m)) ∧ Below w.heap.size w w' := by
  obtain ⟨kind, sport, dport, seq, ack, bits, window, urgent, ty, code, rest, nosum⟩ := x
  try simp only at hk
  subst hk
  have q := Lib.hid (K.new w (.cells #[.int .i64 2, .int .i64 sport, .int .i64 dport, .int .i64 seq, .int .i64 ack, .int .i64 bits, .int .i64 window, .int .i64 urgent, .int .i64 ty, .int .i64 code, .int .i64 rest, .bool nosum, .slice A n c, .slice D m d] 36))
  have q1 := Lib.hid (K.old q.out (.cells #[.int .i64 2, .int .i64 sport, .int .i64 dport, .int .i64 seq, .int .i64 ack, .int .i64 bits, .int .i64 window, .int .i64 urgent, .int .i64 ty, .int .i64 code, .int .i64 rest, .bool nosum, .slice A n c, .slice D m d] 36))
  try simp only at q q1 ⊢
  go_enter Try.func102, Try.ntmps102
  go_wp2_with (with_reducible refine loadU rfl _ rfl w.heap.size rfl q.out ?_)
  refine Calls.mono (formatOfC ⟨2, sport, dport, seq, ack, bits, window, urgent, ty, code, rest, nosum⟩ A D n c m d _) ?_
  rintro e w1 ⟨rfl, rfl⟩
  simp only [show ∀ v, fmtV 2 v = .iface 111 v from fun _ => rfl]
  go_wp2_with fail
  refine wp_region_facts (by kernel_rfl) 6 14 [(0, 8), (1, 9), (2, 10), (3, 11), (4, 12), (5, 13)] _ ([.val (.iface 111 (.agg #[.int .i64 2, .int .i64 sport, .int .i64 dport, .int .i64 seq, .int .i64 ack, .int .i64 bits, .int .i64 window, .int .i64 urgent, .int .i64 ty, .int .i64 code, .int .i64 rest, .bool nosum, .slice A n c, .slice D m d])), .val (.int .i64 (8 : Int)), .val (.pointer (some ⟨w.heap.size, 13, none⟩)), .val (.slice D m d), .val (.int .i64 (m : Int)), .val (.int .i64 ((8 : Int) + m))]) (by kernel_rfl) (by kernel_rfl) rfl rfl ?_ ?_
  · intro j o hj ho a' v K' hx hnd hB hK
    match j, hj, ho with
    | 0, _, ho =>
      obtain rfl := Option.some.inj ho
      have h0 : a'.eval (.tmp 3) = .iface 111 (.agg #[.int .i64 2, .int .i64 sport, .int .i64 dport, .int .i64 seq, .int .i64 ack, .int .i64 bits, .int .i64 window, .int .i64 urgent, .int .i64 ty, .int .i64 code, .int .i64 rest, .bool nosum, .slice A n c, .slice D m d]) := (hx 3 (by decide)).trans rfl
      exact u_move _ _ rfl h0 (hK _ _ rfl (Below.refl _ _))
    | 1, _, ho =>
      obtain rfl := Option.some.inj ho
      have h0 : a'.eval (.tmp 8) = .iface 111 (.agg #[.int .i64 2, .int .i64 sport, .int .i64 dport, .int .i64 seq, .int .i64 ack, .int .i64 bits, .int .i64 window, .int .i64 urgent, .int .i64 ty, .int .i64 code, .int .i64 rest, .bool nosum, .slice A n c, .slice D m d]) := (fact_of hnd 0 8 (by kernel_rfl) :)
      refine u_udp_headSize _ _ _ _ rfl h0 (fun k => by kernel_rfl) (Calls.mono (head_udp (Uh.mk 2 sport dport seq ack bits window urgent ty code rest nosum) A D n c m d v hn) ?_)
      rintro e' v' ⟨rfl, b6⟩
      exact ⟨_, rfl, hK _ _ rfl b6⟩
    | 2, _, ho =>
      obtain rfl := Option.some.inj ho
      have h0 : a'.eval (.tmp 1) = .pointer (some ⟨w.heap.size, 0, none⟩) := (hx 1 (by decide)).trans rfl
      exact u_fldU13 _ _ rfl h0 (hK _ _ rfl (Below.refl _ _))
    | 3, _, ho =>
      obtain rfl := Option.some.inj ho
      have h0 : a'.eval (.tmp 10) = .pointer (some ⟨w.heap.size, 13, none⟩) := (fact_of hnd 2 10 (by kernel_rfl) :)
      exact u_bytes _ _ _ _ rfl h0 (K.cell (K.below hB q1.out) 13 _ rfl) (hK _ _ rfl (Below.refl _ _))
    | 4, _, ho =>
      obtain rfl := Option.some.inj ho
      have h0 : a'.eval (.tmp 11) = .slice D m d := (fact_of hnd 3 11 (by kernel_rfl) :)
      exact u_lenB _ _ _ _ rfl h0 (hK _ _ rfl (Below.refl _ _))
    | 5, _, ho =>
      obtain rfl := Option.some.inj ho
      have h0 : a'.eval (.tmp 9) = .int .i64 (8 : Int) := (fact_of hnd 1 9 (by kernel_rfl) :)
      have h1 : a'.eval (.tmp 12) = .int .i64 (m : Int) := (fact_of hnd 4 12 (by kernel_rfl) :)
      exact u_add _ _ _ _ rfl h0 h1 (by omega) (by omega) (by omega) (by omega) (hK _ _ rfl (Below.refl _ _))
    | j + 6, hj, _ => omega
  · intro f v hf hB
    have e0 : f 0 = (.iface 111 (.agg #[.int .i64 2, .int .i64 sport, .int .i64 dport, .int .i64 seq, .int .i64 ack, .int .i64 bits, .int .i64 window, .int .i64 urgent, .int .i64 ty, .int .i64 code, .int .i64 rest, .bool nosum, .slice A n c, .slice D m d])) := hf (0, 8) (by decide)
    have e1 : f 1 = (.int .i64 (8 : Int)) := hf (1, 9) (by decide)
    have e2 : f 2 = (.pointer (some ⟨w.heap.size, 13, none⟩)) := hf (2, 10) (by decide)
    have e3 : f 3 = (.slice D m d) := hf (3, 11) (by decide)
    have e4 : f 4 = (.int .i64 (m : Int)) := hf (4, 12) (by decide)
    have e5 : f 5 = (.int .i64 ((8 : Int) + m)) := hf (5, 13) (by decide)
    simp only [List.foldl_cons, List.foldl_nil, List.drop_succ_cons, List.drop_zero, e0, e1, e2, e3, e4, e5]
    clear e0 e1 e2 e3 e4 e5 hf
    go_simp
    go_wp2
    go_ret
    exact ⟨rfl, bthen (by go_grown) hB⟩
set_option maxHeartbeats 2000000 in
theorem implUpSize3 (x : Uh) (A D : Option Addr) (n c m d : Nat) (w : World) (hn : n ≤ 1048576) (hm : m ≤ 1048576) (hk : x.kind = 3) : Calls Try.prog 102 #[.agg #[.int .i64 x.kind, .int .i64 x.sport, .int .i64 x.dport, .int .i64 x.seq, .int .i64 x.ack, .int .i64 x.bits, .int .i64 x.window, .int .i64 x.urgent, .int .i64 x.ty, .int .i64 x.code, .int .i64 x.rest, .bool x.nosum, .slice A n c, .slice D m d]] w fun e w' => e = .returned (.int .i64 (x.size n m)) ∧ Below w.heap.size w w' := by
  obtain ⟨kind, sport, dport, seq, ack, bits, window, urgent, ty, code, rest, nosum⟩ := x
  try simp only at hk
  subst hk
  have q := Lib.hid (K.new w (.cells #[.int .i64 3, .int .i64 sport, .int .i64 dport, .int .i64 seq, .int .i64 ack, .int .i64 bits, .int .i64 window, .int .i64 urgent, .int .i64 ty, .int .i64 code, .int .i64 rest, .bool nosum, .slice A n c, .slice D m d] 36))
  have q1 := Lib.hid (K.old q.out (.cells #[.int .i64 3, .int .i64 sport, .int .i64 dport, .int .i64 seq, .int .i64 ack, .int .i64 bits, .int .i64 window, .int .i64 urgent, .int .i64 ty, .int .i64 code, .int .i64 rest, .bool nosum, .slice A n c, .slice D m d] 36))
  try simp only at q q1 ⊢
  go_enter Try.func102, Try.ntmps102
  go_wp2_with (with_reducible refine loadU rfl _ rfl w.heap.size rfl q.out ?_)
  refine Calls.mono (formatOfC ⟨3, sport, dport, seq, ack, bits, window, urgent, ty, code, rest, nosum⟩ A D n c m d _) ?_
  rintro e w1 ⟨rfl, rfl⟩
  simp only [show ∀ v, fmtV 3 v = .iface 112 v from fun _ => rfl]
  go_wp2_with fail
  refine wp_region_facts (by kernel_rfl) 6 14 [(0, 8), (1, 9), (2, 10), (3, 11), (4, 12), (5, 13)] _ ([.val (.iface 112 (.agg #[.int .i64 3, .int .i64 sport, .int .i64 dport, .int .i64 seq, .int .i64 ack, .int .i64 bits, .int .i64 window, .int .i64 urgent, .int .i64 ty, .int .i64 code, .int .i64 rest, .bool nosum, .slice A n c, .slice D m d])), .val (.int .i64 (8 : Int)), .val (.pointer (some ⟨w.heap.size, 13, none⟩)), .val (.slice D m d), .val (.int .i64 (m : Int)), .val (.int .i64 ((8 : Int) + m))]) (by kernel_rfl) (by kernel_rfl) rfl rfl ?_ ?_
  · intro j o hj ho a' v K' hx hnd hB hK
    match j, hj, ho with
    | 0, _, ho =>
      obtain rfl := Option.some.inj ho
      have h0 : a'.eval (.tmp 3) = .iface 112 (.agg #[.int .i64 3, .int .i64 sport, .int .i64 dport, .int .i64 seq, .int .i64 ack, .int .i64 bits, .int .i64 window, .int .i64 urgent, .int .i64 ty, .int .i64 code, .int .i64 rest, .bool nosum, .slice A n c, .slice D m d]) := (hx 3 (by decide)).trans rfl
      exact u_move _ _ rfl h0 (hK _ _ rfl (Below.refl _ _))
    | 1, _, ho =>
      obtain rfl := Option.some.inj ho
      have h0 : a'.eval (.tmp 8) = .iface 112 (.agg #[.int .i64 3, .int .i64 sport, .int .i64 dport, .int .i64 seq, .int .i64 ack, .int .i64 bits, .int .i64 window, .int .i64 urgent, .int .i64 ty, .int .i64 code, .int .i64 rest, .bool nosum, .slice A n c, .slice D m d]) := (fact_of hnd 0 8 (by kernel_rfl) :)
      refine u_icmp_headSize _ _ _ _ rfl h0 (fun k => by kernel_rfl) (Calls.mono (head_icmp (Uh.mk 3 sport dport seq ack bits window urgent ty code rest nosum) A D n c m d v hn) ?_)
      rintro e' v' ⟨rfl, b6⟩
      exact ⟨_, rfl, hK _ _ rfl b6⟩
    | 2, _, ho =>
      obtain rfl := Option.some.inj ho
      have h0 : a'.eval (.tmp 1) = .pointer (some ⟨w.heap.size, 0, none⟩) := (hx 1 (by decide)).trans rfl
      exact u_fldU13 _ _ rfl h0 (hK _ _ rfl (Below.refl _ _))
    | 3, _, ho =>
      obtain rfl := Option.some.inj ho
      have h0 : a'.eval (.tmp 10) = .pointer (some ⟨w.heap.size, 13, none⟩) := (fact_of hnd 2 10 (by kernel_rfl) :)
      exact u_bytes _ _ _ _ rfl h0 (K.cell (K.below hB q1.out) 13 _ rfl) (hK _ _ rfl (Below.refl _ _))
    | 4, _, ho =>
      obtain rfl := Option.some.inj ho
      have h0 : a'.eval (.tmp 11) = .slice D m d := (fact_of hnd 3 11 (by kernel_rfl) :)
      exact u_lenB _ _ _ _ rfl h0 (hK _ _ rfl (Below.refl _ _))
    | 5, _, ho =>
      obtain rfl := Option.some.inj ho
      have h0 : a'.eval (.tmp 9) = .int .i64 (8 : Int) := (fact_of hnd 1 9 (by kernel_rfl) :)
      have h1 : a'.eval (.tmp 12) = .int .i64 (m : Int) := (fact_of hnd 4 12 (by kernel_rfl) :)
      exact u_add _ _ _ _ rfl h0 h1 (by omega) (by omega) (by omega) (by omega) (hK _ _ rfl (Below.refl _ _))
    | j + 6, hj, _ => omega
  · intro f v hf hB
    have e0 : f 0 = (.iface 112 (.agg #[.int .i64 3, .int .i64 sport, .int .i64 dport, .int .i64 seq, .int .i64 ack, .int .i64 bits, .int .i64 window, .int .i64 urgent, .int .i64 ty, .int .i64 code, .int .i64 rest, .bool nosum, .slice A n c, .slice D m d])) := hf (0, 8) (by decide)
    have e1 : f 1 = (.int .i64 (8 : Int)) := hf (1, 9) (by decide)
    have e2 : f 2 = (.pointer (some ⟨w.heap.size, 13, none⟩)) := hf (2, 10) (by decide)
    have e3 : f 3 = (.slice D m d) := hf (3, 11) (by decide)
    have e4 : f 4 = (.int .i64 (m : Int)) := hf (4, 12) (by decide)
    have e5 : f 5 = (.int .i64 ((8 : Int) + m)) := hf (5, 13) (by decide)
    simp only [List.foldl_cons, List.foldl_nil, List.drop_succ_cons, List.drop_zero, e0, e1, e2, e3, e4, e5]
    clear e0 e1 e2 e3 e4 e5 hf
    go_simp
    go_wp2
    go_ret
    exact ⟨rfl, bthen (by go_grown) hB⟩
set_option maxHeartbeats 1000000 in
theorem implUpSize_no (x : Uh) (A D : Option Addr) (n c m d : Nat) (w : World) (hk : x.kind ≠ 0 ∧ x.kind ≠ 1 ∧ x.kind ≠ 2 ∧ x.kind ≠ 3) : Calls Try.prog 102 #[.agg #[.int .i64 x.kind, .int .i64 x.sport, .int .i64 x.dport, .int .i64 x.seq, .int .i64 x.ack, .int .i64 x.bits, .int .i64 x.window, .int .i64 x.urgent, .int .i64 x.ty, .int .i64 x.code, .int .i64 x.rest, .bool x.nosum, .slice A n c, .slice D m d]] w fun e w' => e = .returned (.int .i64 (x.size n m)) ∧ Below w.heap.size w w' := by
  have q := Lib.hid (K.new w (.cells #[.int .i64 x.kind, .int .i64 x.sport, .int .i64 x.dport, .int .i64 x.seq, .int .i64 x.ack, .int .i64 x.bits, .int .i64 x.window, .int .i64 x.urgent, .int .i64 x.ty, .int .i64 x.code, .int .i64 x.rest, .bool x.nosum, .slice A n c, .slice D m d] 36))
  have hf : Hid (∀ v, fmtV x.kind v = .nilIface) := Lib.hid (fun v => by simp [fmtV, hk])
  have hz := Lib.hid (show x.size n m = -1 by simp [Uh.size, hk])
  clear hk
  go_enter Try.func102, Try.ntmps102
  go_wp2_with (with_reducible refine loadU rfl _ rfl w.heap.size rfl q.out ?_)
  refine Calls.mono (formatOfC x A D n c m d _) ?_
  rintro e w1 ⟨rfl, rfl⟩
  simp only [hf.out]
  go_wp2
  go_ret
  exact ⟨ret_int hz.out.symm, by go_grown⟩
theorem implUpSize (x : Uh) (A D : Option Addr) (n c m d : Nat) (w : World) (hn : n ≤ 1048576) (hm : m ≤ 1048576) : Calls Try.prog 102 #[.agg #[.int .i64 x.kind, .int .i64 x.sport, .int .i64 x.dport, .int .i64 x.seq, .int .i64 x.ack, .int .i64 x.bits, .int .i64 x.window, .int .i64 x.urgent, .int .i64 x.ty, .int .i64 x.code, .int .i64 x.rest, .bool x.nosum, .slice A n c, .slice D m d]] w fun e w' => e = .returned (.int .i64 (x.size n m)) ∧ Below w.heap.size w w' := by
  have hk : x.kind = 0 ∨ x.kind = 1 ∨ x.kind = 2 ∨ x.kind = 3 ∨ (x.kind ≠ 0 ∧ x.kind ≠ 1 ∧ x.kind ≠ 2 ∧ x.kind ≠ 3) := by omega
  rcases hk with h | h | h | h | h
  · exact implUpSize0 x A D n c m d w hn hm h
  · exact implUpSize1 x A D n c m d w hn hm h
  · exact implUpSize2 x A D n c m d w hn hm h
  · exact implUpSize3 x A D n c m d w hn hm h
  · exact implUpSize_no x A D n c m d w h
end Go.Proofs.Ythogonpjkngpjaa
