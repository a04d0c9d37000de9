/-
  UpperOk in the model. The bytes of an upper layer. Plain: nothing here speaks of the program. The checksum of an upper layer between two addresses. Plain: nothing here speaks of the program. A region that draws its order, as in the text RegThen, one of the first operations of which (p) may turn a row: what stands is said for the time ahead of it and behind it. Plain: any program. A region that draws its order, the first operations of which leave a value each, or a slice of bytes that can be read or is owned, and touch nothing that was there before; the others follow in their order. Plain: any program. A slice of bytes that is being built by appending, beside what must be kept. A slice that reads as a list of cells, whatever they are; 'append' onto a row of the call's own, from whatever source; rows of integers. What the laws' own helpers on slices of integers do: a copy, a comparison; a slice of integers that came in. What the model's functions of chapter 2 answer. What the program's functions of chapter 2 answer.
-/
import Derived.Test.YtkmijefheejcjaaKp16
import Derived.Test.YtkmijefheejcjaaKp17
import Derived.Test.YtkmijefheejcjaaKp18
import Derived.Test.YtkmijefheejcjaaKp19
import Derived.Test.YtkmijefheejcjaaKp20
import Derived.Test.YtkmijefheejcjaaKp21
import Derived.Test.YtkmijefheejcjaaKp22
import Derived.Test.YtkmijefheejcjaaKp23
import Derived.Test.YtkmijefheejcjaaKp24
import Derived.Test.YtkmijefheejcjaaKp25
import Derived.Test.YtkmijefheejcjaaKp07
import Derived.Test.YtkmijefheejcjaaKp01
import Derived.Test.YtkmijefheejcjaaKp02
import Derived.Deep.QuietTactic
import Derived.BigQuiet
import Derived.ProofKit
import Derived.OpenShut
import Derived.StillTailTactics
namespace Go.Proofs.Ytkmijefheejcjaa
set_option maxRecDepth 100000
open Go.RowKit

set_option maxHeartbeats 1000000 in
theorem upOkS_no (x : Uh) (A D : Option Addr) (n c m d : Nat) (k : Int) (w : World) (h4 : ¬ k = 4) (h6 : ¬ k = 6) : Calls Try.prog 40 #[.agg #[.int .i64 x.kind, .int .i64 x.sport, .int .i64 x.dport, .int .i64 x.seq, .int .i64 x.ack, .int .i64 x.bits, .int .i64 x.window, .int .i64 x.urgent, .int .i64 x.ty, .int .i64 x.code, .int .i64 x.rest, .bool x.nosum, .slice A n c, .slice D m d], .int .i64 k] w fun e w' => e = .returned (.bool (x.ok k n m)) ∧ Below w.heap.size w w' := by
  have HZ := Lib.hid (show x.ok k n m = false by simp [Uh.ok, kindB, h4, h6])
  have f4 : (k != 4) = true := by simp [h4]
  have f6 : (k != 6) = true := by simp [h6]
  go_enter Try.func40, Try.ntmps40
  go_wp2
  go_ret
  exact ⟨ret_bool HZ.out.symm, Joins.below_alloc1 w _⟩

theorem specUpOk (x : Uh) (A D : Option Addr) (n c m d : Nat) (k : Int) (w : World) (hn : n ≤ 1048576) (hm : m ≤ 1048576) : Calls Try.prog 40 #[.agg #[.int .i64 x.kind, .int .i64 x.sport, .int .i64 x.dport, .int .i64 x.seq, .int .i64 x.ack, .int .i64 x.bits, .int .i64 x.window, .int .i64 x.urgent, .int .i64 x.ty, .int .i64 x.code, .int .i64 x.rest, .bool x.nosum, .slice A n c, .slice D m d], .int .i64 k] w fun e w' => e = .returned (.bool (x.ok k n m)) ∧ Below w.heap.size w w' := by
  obtain ⟨kind, sport, dport, seq, ack, bits, window, urgent, ty, code, rest, nosum⟩ := x
  have hk : kind = 0 ∨ kind = 1 ∨ kind = 2 ∨ kind = 3 ∨ (¬ kind = 0 ∧ ¬ kind = 1 ∧ ¬ kind = 2 ∧ ¬ kind = 3) := by omega
  by_cases h4 : k = 4
  · subst h4
    rcases hk with rfl | rfl | rfl | rfl | ⟨k0, k1, k2, k3⟩
    · exact upOkS0_4 sport dport seq ack bits window urgent ty code rest nosum A D n c m d w hn hm
    · exact upOkS1_4 sport dport seq ack bits window urgent ty code rest nosum A D n c m d w hn hm
    · exact upOkS2_4 sport dport seq ack bits window urgent ty code rest nosum A D n c m d w hn hm
    · exact upOkS3_4 sport dport seq ack bits window urgent ty code rest nosum A D n c m d w hn hm
    · exact upOkS4_4 kind sport dport seq ack bits window urgent ty code rest nosum A D n c m d w hn hm k0 k1 k2 k3
  · by_cases h6 : k = 6
    · subst h6
      rcases hk with rfl | rfl | rfl | rfl | ⟨k0, k1, k2, k3⟩
      · exact upOkS0_6 sport dport seq ack bits window urgent ty code rest nosum A D n c m d w hn hm
      · exact upOkS1_6 sport dport seq ack bits window urgent ty code rest nosum A D n c m d w hn hm
      · exact upOkS2_6 sport dport seq ack bits window urgent ty code rest nosum A D n c m d w hn hm
      · exact upOkS3_6 sport dport seq ack bits window urgent ty code rest nosum A D n c m d w hn hm
      · exact upOkS4_6 kind sport dport seq ack bits window urgent ty code rest nosum A D n c m d w hn hm k0 k1 k2 k3
    · exact upOkS_no _ A D n c m d k w h4 h6
end Go.Proofs.Ytkmijefheejcjaa

namespace Go.Proofs.Ytkmijefheejcjaa
set_option maxRecDepth 100000
open Go.RowKit

def tcpH (x : Uh) (o : List UInt8) (sum : Int) : List UInt8 := put16 x.sport ++ put16 x.dport ++ put32 x.seq ++ put32 x.ack ++ put16 (4096 * (5 + (o.length : Int) / 4) + x.bits) ++ put16 x.window ++ put16 sum ++ put16 x.urgent ++ o
def udpH (x : Uh) (n : Nat) (sum : Int) : List UInt8 := put16 x.sport ++ put16 x.dport ++ put16 (8 + (n : Int)) ++ put16 sum
def icmpH (x : Uh) (sum : Int) : List UInt8 := [byteOf x.ty, byteOf x.code] ++ put16 sum ++ put32 x.rest
/-- The bytes of an upper layer with a checksum. -/
def Uh.enc (x : Uh) (o bs : List UInt8) (sum : Int) : List UInt8 :=
  (if x.kind = 1 then tcpH x o sum else if x.kind = 2 then udpH x bs.length sum else if x.kind = 3 then icmpH x sum else []) ++ bs
theorem tcpH_len (x : Uh) (o : List UInt8) (s : Int) : (tcpH x o s).length = 20 + o.length := by simp [tcpH, put16, put32]; omega
theorem udpH_len (x : Uh) (n : Nat) (s : Int) : (udpH x n s).length = 8 := by simp [udpH, put16]
theorem icmpH_len (x : Uh) (s : Int) : (icmpH x s).length = 8 := by simp [icmpH, put16, put32]
theorem Uh.enc_len (x : Uh) (o bs : List UInt8) (s : Int) (hk : x.kind = 0 ∨ x.kind = 1 ∨ x.kind = 2 ∨ x.kind = 3) : ((x.enc o bs s).length : Int) = x.size o.length bs.length := by
  rcases hk with h | h | h | h
  · simp [Uh.enc, Uh.size, h]
  · simp [Uh.enc, Uh.size, h, tcpH_len]
  · simp [Uh.enc, Uh.size, h, udpH_len]
  · simp [Uh.enc, Uh.size, h, icmpH_len]
end Go.Proofs.Ytkmijefheejcjaa

namespace Go.Proofs.Ytkmijefheejcjaa
set_option maxRecDepth 100000
open Go.RowKit

/-- The part of the checksum that the addresses have. -/
def Uh.top (x : Uh) (o n : Nat) (a b : Ad) : Int :=
  if x.kind = 1 then psSum a b 6 (x.size o n) else if x.kind = 2 then psSum a b 17 (x.size o n) else if a.k = 6 then psSum a b 58 (x.size o n) else 0
/-- The checksum with the last exception. -/
def udp0 (k s : Int) : Int := if k = 2 ∧ s = 0 then 65535 else s
def Uh.sum (x : Uh) (o bs : List UInt8) (a b : Ad) : Int :=
  if (pairA a b && x.ok a.k o.length bs.length) = true then
    (if x.kind = 0 ∨ x.nosum = true then 0 else udp0 x.kind (65535 - sadd (x.top o.length bs.length a b) (onesSum (x.enc o bs 0))))
  else -1
theorem Uh.ok_facts {x : Uh} {k : Int} {o n : Nat} (h : x.ok k o n = true) : kindB k = true ∧ x.fields k o = true ∧ noF x.unused (if x.kind = 1 then 0 else o) = true ∧ x.size o n ≤ 1500 := by
  simpa [Uh.ok, and_assoc] using h
theorem Uh.ok_kind {x : Uh} {k : Int} {o n : Nat} (h : x.ok k o n = true) : x.kind = 0 ∨ x.kind = 1 ∨ x.kind = 2 ∨ x.kind = 3 := by
  have hf := (Uh.ok_facts h).2.1
  unfold Uh.fields at hf
  split at hf
  · omega
  · split at hf
    · omega
    · split at hf
      · omega
      · split at hf
        · omega
        · cases hf
/-- A valid upper layer has at most 40 bytes of options, a multiple of four; its body is no longer than 1500; its size lies within 0 and 1500. -/
theorem Uh.ok_room {x : Uh} {k : Int} {o n : Nat} (h : x.ok k o n = true) : o ≤ 40 ∧ o % 4 = 0 ∧ n ≤ 1500 ∧ 0 ≤ x.size o n ∧ x.size o n ≤ 1500 := by
  obtain ⟨_, hf, hn, hs⟩ := Uh.ok_facts h
  rcases Uh.ok_kind h with e | e | e | e
  · simp [noF, e] at hn
    simp [Uh.size, e] at hs ⊢
    omega
  · simp [Uh.fields, e, optOk] at hf
    simp [Uh.size, e] at hs ⊢
    omega
  · simp [noF, e] at hn
    simp [Uh.size, e] at hs ⊢
    omega
  · simp [noF, e] at hn
    simp [Uh.size, e] at hs ⊢
    omega
theorem Uh.ok_tcp {x : Uh} {k : Int} {o n : Nat} (h : x.ok k o n = true) (e : x.kind = 1) : 0 ≤ x.bits ∧ x.bits ≤ 4095 := by
  have hf := (Uh.ok_facts h).2.1
  simp [Uh.fields, e, upTo] at hf
  omega
theorem Uh.ok_icmp {x : Uh} {k : Int} {o n : Nat} (h : x.ok k o n = true) (e : x.kind = 3) : (0 ≤ x.ty ∧ x.ty ≤ 255) ∧ 0 ≤ x.code ∧ x.code ≤ 255 := by
  have hf := (Uh.ok_facts h).2.1
  simp [Uh.fields, e, upTo] at hf
  omega
theorem psSum_word {a b : Ad} {p s : Int} (h : pairA a b = true) (hp : upTo p 255 = true) (hs : upTo s 1500 = true) : isWord (psSum a b p s) = true := by
  rw [psSum_yes (by simp [h, hp, hs])]
  apply onesSum_word
  have hxy : (a.ok = true ∧ b.ok = true) ∧ a.k = b.k := by simpa [pairA] using h
  have l1 : a.bytes.length ≤ 16 := by simp [Ad.bytes, hxy.1.1]; split <;> simp [put32, Ad.whole_length]
  have l2 : b.bytes.length ≤ 16 := by simp [Ad.bytes, hxy.1.2]; split <;> simp [put32, Ad.whole_length]
  unfold psBytes
  split <;> simp [put16, put32] <;> omega
theorem Uh.top_word {x : Uh} {o n : Nat} {a b : Ad} (h : pairA a b = true) (k : x.ok a.k o n = true) : isWord (x.top o n a b) = true := by
  have hs := Uh.ok_room k
  have hu : upTo (x.size o n) 1500 = true := upTo_iff.2 hs.2.2.2
  unfold Uh.top
  split
  · exact psSum_word h rfl hu
  · split
    · exact psSum_word h rfl hu
    · split
      · exact psSum_word h rfl hu
      · rfl
theorem Uh.enc_word {x : Uh} {k : Int} {o bs : List UInt8} (h : x.ok k o.length bs.length = true) (s : Int) : isWord (onesSum (x.enc o bs s)) = true := by
  apply onesSum_word
  have h1 := Uh.enc_len x o bs s (Uh.ok_kind h)
  have h2 := Uh.ok_room h
  omega
theorem Uh.sum_no {x : Uh} {o bs : List UInt8} {a b : Ad} (h : (pairA a b && x.ok a.k o.length bs.length) = false) : x.sum o bs a b = -1 := by simp [Uh.sum, h]
theorem Uh.sum_zero {x : Uh} {o bs : List UInt8} {a b : Ad} (h : (pairA a b && x.ok a.k o.length bs.length) = true) (k : x.kind = 0 ∨ x.nosum = true) : x.sum o bs a b = 0 := by rw [Uh.sum, if_pos h, if_pos k]
theorem Uh.sum_yes {x : Uh} {o bs : List UInt8} {a b : Ad} (h : (pairA a b && x.ok a.k o.length bs.length) = true) (k : ¬ (x.kind = 0 ∨ x.nosum = true)) : x.sum o bs a b = udp0 x.kind (65535 - sadd (x.top o.length bs.length a b) (onesSum (x.enc o bs 0))) := by rw [Uh.sum, if_pos h, if_neg k]
end Go.Proofs.Ytkmijefheejcjaa

namespace Go.Proofs.Ytkmijefheejcjaa
set_option maxRecDepth 100000
open Go.RowKit

section
variable {P : Program} {ops : Array Oper} {Q : Exit → Act → World → Prop}

/-- What stands while the first operations run. -/
structure KeptP (ops : Array Oper) (Γ : Nat → Bool → World → Value → Prop) (I : Bool → World → Prop) (p n k : Nat) (a0 : Act) (listed : Array Bool) (a : Act) (w : World) : Prop where
  size : listed.size = ops.size
  len : a.tmps.size = n
  defers : a.defers = a0.defers
  keep : ∀ t, (∀ (j : Nat) o, j < k → ops[j]? = some o → o.dst ≠ some t) → a.tmps.getD t undef = a0.tmps.getD t undef
  none : ∀ i, k ≤ i → listed.getD i false = false
  closed : ∀ j, listed.getD j false = true → ∀ i ∈ depsOf ops j, listed.getD i false = true
  inv : I (listed.getD p false) w
  slots : ∀ (j : Nat) o d, j < k → ops[j]? = some o → o.dst = some d → listed.getD j false = true → Γ j (listed.getD p false) w (a.tmps.getD d undef)

theorem wpAny_thenP {Γ : Nat → Bool → World → Value → Prop} {I : Bool → World → Prop} {p n k : Nat} {a0 : Act} (hf : thenB ops n k = true)
    (hpk : p < k)
    (hop : ∀ (j : Nat) o, j < k → j ≠ p → ops[j]? = some o → ∀ b a w K, (∀ t, (∀ (j : Nat) o, j < k → ops[j]? = some o → o.dst ≠ some t) → a.tmps.getD t undef = a0.tmps.getD t undef) → (∀ q ∈ needOf ops j, Γ q.1 b w (a.tmps.getD q.2 undef)) → I b w →
      (∀ v w', Γ j b w' v → (∀ i u, Γ i b w u → Γ i b w' u) → I b w' → K (a.put o.dst v) w') → o.wp P a w K Q)
    (hpp : ∀ o, ops[p]? = some o → ∀ a w K, (∀ t, (∀ (j : Nat) o, j < k → ops[j]? = some o → o.dst ≠ some t) → a.tmps.getD t undef = a0.tmps.getD t undef) → (∀ q ∈ needOf ops p, Γ q.1 false w (a.tmps.getD q.2 undef)) → I false w →
      (∀ v w', Γ p true w' v → (∀ i u, i ≠ p → Γ i false w u → Γ i true w' u) → I true w' → K (a.put o.dst v) w') → o.wp P a w K Q)
    (hend : ∀ a w, a.tmps.size = n → a.defers = a0.defers → (∀ t, (∀ (j : Nat) o, j < k → ops[j]? = some o → o.dst ≠ some t) → a.tmps.getD t undef = a0.tmps.getD t undef) →
      (∀ (j : Nat) o d, j < k → ops[j]? = some o → o.dst = some d → Γ j true w (a.tmps.getD d undef)) → I true w → wpList P ops Q (ops.toList.drop k) a w) :
    ∀ (fuel : Nat) (listed : Array Bool) (a : Act) (w : World), KeptP ops Γ I p n k a0 listed a w → ops.size ≤ up listed + fuel → wpAny P .any ops Q fuel listed a w := by
  have hks : k < ops.size := by
    simp only [thenB, Bool.and_eq_true, decide_eq_true_eq] at hf
    exact hf.1.1
  have notall : ∀ (listed : Array Bool) (a : Act) (w : World), KeptP ops Γ I p n k a0 listed a w → up listed = ops.size → False := by
    intro listed a w hk hu
    have := up_all (listed := listed) (by rw [hu, hk.size]) (i := k) (by rw [hk.size]; exact hks)
    rw [hk.none k (Nat.le_refl _)] at this
    cases this
  have nostop : ∀ (listed : Array Bool) (a : Act) (w : World), KeptP ops Γ I p n k a0 listed a w → Region.ready .any ops listed = [] → False := by
    intro listed a w hk hr
    have hall : ∀ j, j < ops.size → listed.getD j false = true := by
      intro j
      induction j using Nat.strongRecOn with
      | ind j ih =>
        intro hj
        obtain ⟨o, ho⟩ : ∃ o, ops[j]? = some o := ⟨_, Array.getElem?_eq_getElem hj⟩
        cases hg : listed.getD j false
        · have hm : j ∈ Region.ready .any ops listed := by
            refine mem_ready.2 ⟨?_, o, ho, fun e he hb => ?_⟩
            · have hj2 : j < listed.size := by rw [hk.size]; exact hj
              simpa [hj2] using hg
            · have := (thenB_at hf ho).1 e he hb
              exact ih e.on this (by omega)
          rw [hr] at hm
          cases hm
        · rfl
    have := hall k hks
    rw [hk.none k (Nat.le_refl _)] at this
    cases this
  intro fuel
  induction fuel with
  | zero =>
    intro listed a w hk hle
    exact (notall listed a w hk (by have := up_le listed; have := hk.size; omega)).elim
  | succ fuel ih =>
    intro listed a w hk hle
    refine ⟨fun hr => (nostop listed a w hk hr).elim, fun i hi => ?_⟩
    obtain ⟨h0, o, ho, hall⟩ := mem_ready.1 hi
    obtain ⟨hu, hil⟩ := up_set h0
    obtain ⟨hlt, hd, htail⟩ := thenB_at hf ho
    rcases Nat.lt_trichotomy i k with hik | hik | hik
    · obtain ⟨hg, hd⟩ := hd hik
      unfold wpOp
      simp only [ho]
      rw [if_pos (by simp [Region.wanted, hg])]
      left
      have hneed : ∀ q ∈ needOf ops i, Γ q.1 (listed.getD p false) w (a.tmps.getD q.2 undef) := fun q hq => by
        obtain ⟨⟨e, he, hep, hb⟩, oj, hoj, hdj⟩ := needOf_spec ho hq
        exact hk.slots q.1 oj q.2 (by have := hlt e he hb; omega) hoj hdj (by rw [← hep]; exact hall e he hb)
      have hnext : ∀ v w', Γ i ((listed.setIfInBounds i true).getD p false) w' v → (∀ j u, j ≠ i → Γ j (listed.getD p false) w u → Γ j ((listed.setIfInBounds i true).getD p false) w' u) → I ((listed.setIfInBounds i true).getD p false) w' → wpAny P .any ops Q fuel (listed.setIfInBounds i true) (a.put o.dst v) w' := by
        intro v w' hv hR hI
        refine ih _ _ _ ⟨by simpa using hk.size, by rw [put_size]; exact hk.len, by rw [put_defers']; exact hk.defers, fun t ht => ?_, fun j hj => ?_, fun j hl l hl2 => ?_, hI, fun j oj d hjk hj hdj hl => ?_⟩ (by omega)
        · rw [put_other a v (ht i o hik ho)]
          exact hk.keep t ht
        · rw [getD_set_ne (listed := listed) false (by omega)]
          exact hk.none j hj
        · by_cases hji : j = i
          · subst hji
            obtain ⟨o', ho', e, he, heq, hb⟩ := depsOf_spec hl2
            obtain rfl : o = o' := Option.some.inj (ho.symm.trans ho')
            rw [← heq, getD_set_ne (listed := listed) false (by have := hlt e he hb; omega)]
            exact hall e he hb
          · rw [getD_set_ne (listed := listed) false (Ne.symm hji)] at hl
            have := hk.closed j hl l hl2
            by_cases hli : l = i
            · subst hli
              simp [hil]
            · rw [getD_set_ne (listed := listed) false (Ne.symm hli)]
              exact this
        · by_cases hji : j = i
          · subst hji
            obtain rfl : o = oj := Option.some.inj (ho.symm.trans hj)
            rw [hdj, put_own a v (hd d hdj).1 hk.len]
            exact hv
          · have hne : o.dst ≠ some d := fun e => hji ((hd d e).2 j oj hjk hj hdj)
            rw [put_other a v hne]
            refine hR j _ hji (hk.slots j oj d hjk hj hdj ?_)
            rw [← getD_set_ne (listed := listed) false (Ne.symm hji)]
            exact hl
      by_cases hip : i = p
      · subst hip
        have e0 : listed.getD i false = false := by
          have h2 : i < listed.size := hil
          simpa [h2] using h0
        have e1 : (listed.setIfInBounds i true).getD i false = true := by simp [hil]
        rw [e0, e1] at hnext
        rw [e0] at hneed
        have hinv := hk.inv
        rw [e0] at hinv
        exact hpp o ho a w _ hk.keep hneed hinv (fun v w' hv hR hI => hnext v w' hv hR hI)
      · have e1 : (listed.setIfInBounds i true).getD p false = listed.getD p false := getD_set_ne (listed := listed) false hip
        rw [e1] at hnext
        exact hop i o hik hip ho _ a w _ hk.keep hneed hk.inv (fun v w' hv hR hI => hnext v w' hv (fun j u _ hu => hR j u hu) hI)
    · subst hik
      have hdone : ∀ j, j < i → listed.getD j false = true := by
        have := (thenB_all hf (fun j => listed.getD j false = true ∨ j = i) (fun j l hj hl => ?_) (.inr rfl)).2
        · intro j hj
          rcases this j hj with h | h
          · exact h
          · omega
        · rcases hj with hj | rfl
          · exact .inl (hk.closed j hj l hl)
          · obtain ⟨o', ho', e, he, heq, hb⟩ := depsOf_spec hl
            obtain rfl : o = o' := Option.some.inj (ho.symm.trans ho')
            exact .inl (heq ▸ hall e he hb)
      have hpd : listed.getD p false = true := hdone p hpk
      have hw := hend a w hk.len hk.defers hk.keep (fun j oj d hjk hj hdj => by have := hk.slots j oj d hjk hj hdj (hdone j hjk); rwa [hpd] at this) (by have := hk.inv; rwa [hpd] at this)
      have hup : up listed ≤ i := by
        have h1 : up listed = (listed.toList.take i).count true + (listed.toList.drop i).count true := by
          rw [up, ← List.count_append, List.take_append_drop]
        have h2 : (listed.toList.drop i).count true = 0 := by
          rw [List.count_eq_zero]
          intro hm
          obtain ⟨q, hq, he⟩ := List.getElem_of_mem hm
          simp at hq he
          have := hk.none (i + q) (by omega)
          simp at this
          rw [Array.getElem?_eq_getElem (by omega)] at this
          simp [he] at this
        have h3 := List.count_le_length (a := true) (l := listed.toList.take i)
        simp at h3
        omega
      have T := wpAny_tail (P := P) (Q := Q) hf (fuel + 1) i listed a w (Nat.le_refl _) (by omega) hk.size (fun j hj => Iff.intro (fun h => (by
        rcases Nat.lt_or_ge j i with h2 | h2
        · exact h2
        · rw [hk.none j h2] at h
          cases h)) (fun h => hdone j h)) (by omega) hw
      exact T.2 i hi
    · exfalso
      obtain ⟨o', ho', e, he, heq, hb⟩ := depsOf_spec (htail hik)
      obtain rfl : o = o' := Option.some.inj (ho.symm.trans ho')
      have := hall e he hb
      rw [heq, hk.none (i - 1) (by omega)] at this
      cases this

/-- The region, at last: the first k operations by what each leaves, and then the frame with their values written and the rest of the list. -/
theorem wp_region_thenP {id : Nat} {a : Act} {w : World} (hmx : P.follows .mixedOrders = true) (k n : Nat) (L : List (Nat × Nat)) (R : List Oper) (hf : thenB ops n k = true) (hL : dstsOf ops k = L) (hR : ops.toList.drop k = R) (Γ : Nat → Bool → World → Value → Prop) (I : Bool → World → Prop) (p : Nat) (hpk : p < k) (hn : a.tmps.size = n) (h0 : I false { w with drawn := w.drawn + 1 })
    (hop : ∀ (j : Nat) o, j < k → j ≠ p → ops[j]? = some o → ∀ b a' w K, (∀ t, (∀ p ∈ L, p.2 ≠ t) → a'.tmps.getD t undef = a.tmps.getD t undef) → (∀ q ∈ needOf ops j, Γ q.1 b w (a'.tmps.getD q.2 undef)) → I b w →
      (∀ v w', Γ j b w' v → (∀ i u, Γ i b w u → Γ i b w' u) → I b w' → K (a'.put o.dst v) w') → o.wp P a' w K Q)
    (hpp : ∀ o, ops[p]? = some o → ∀ a' w K, (∀ t, (∀ p ∈ L, p.2 ≠ t) → a'.tmps.getD t undef = a.tmps.getD t undef) → (∀ q ∈ needOf ops p, Γ q.1 false w (a'.tmps.getD q.2 undef)) → I false w →
      (∀ v w', Γ p true w' v → (∀ i u, i ≠ p → Γ i false w u → Γ i true w' u) → I true w' → K (a'.put o.dst v) w') → o.wp P a' w K Q)
    (hend : ∀ (f : Nat → Value) w', (∀ q ∈ L, Γ q.1 true w' (f q.1)) → I true w' → wpList P ops Q R (L.foldl (fun b p => b.put (some p.2) (f p.1)) a) w') : (Code.region id ops true).wp P Q a w := by
  subst hL
  subst hR
  have keepL : ∀ (a' : Act), (∀ t, (∀ (j : Nat) o, j < k → ops[j]? = some o → o.dst ≠ some t) → a'.tmps.getD t undef = a.tmps.getD t undef) → ∀ t, (∀ p ∈ dstsOf ops k, p.2 ≠ t) → a'.tmps.getD t undef = a.tmps.getD t undef := by
    intro a' h t ht
    refine h t (fun j o hj ho hd => ?_)
    exact ht (j, t) (dstsOf_mem.2 ⟨hj, o, ho, hd⟩) rfl
  have hfl : ∀ j, (Array.replicate ops.size false).getD j false = false := by
    intro j
    simp [Array.getElem?_replicate]
    split <;> simp
  refine wp_region_any hmx (wpAny_thenP (Γ := Γ) (I := I) (p := p) (n := n) (a0 := a) hf hpk (fun j o hj hjp ho b a' w' K hk hnd hI hK => hop j o hj hjp ho b a' w' K (keepL a' hk) hnd hI hK) (fun o ho a' w' K hk hnd hI hK => hpp o ho a' w' K (keepL a' hk) hnd hI hK) ?_ ops.size _ a _ ⟨by simp, hn, rfl, fun _ _ => rfl, fun i _ => hfl i, fun j hl => absurd hl (by rw [hfl j]; simp), by rw [hfl p]; exact h0, fun j o d _ _ _ hl => absurd hl (by rw [hfl j]; simp)⟩ (by omega))
  intro a' w' hsz hdf hk hs hI
  have hdst : ∀ p ∈ dstsOf ops k, Γ p.1 true w' (a'.tmps.getD p.2 undef) ∧ p.2 < n := by
    intro p hp
    obtain ⟨h1, o, h2, h3⟩ := dstsOf_mem.1 hp
    exact ⟨hs p.1 o p.2 h1 h2 h3, (((thenB_at hf h2).2.1 h1).2 p.2 h3).1⟩
  obtain ⟨f, hfv⟩ : ∃ f : Nat → Value, ∀ p ∈ dstsOf ops k, f p.1 = a'.tmps.getD p.2 undef := by
    refine ⟨fun j => match (ops[j]?).bind (·.dst) with | some d => a'.tmps.getD d undef | none => undef, fun p hp => ?_⟩
    obtain ⟨_, o, h2, h3⟩ := dstsOf_mem.1 hp
    simp [h2, h3]
  have E := act_eqT hsz hdf (dstsOf ops k) f a hn rfl (fun p hp => ⟨(hdst p hp).2, (hfv p hp).symm⟩) (keepL a' hk)
  rw [E]
  exact hend f w' (fun p hp => by rw [hfv p hp]; exact (hdst p hp).1) hI
end
end Go.Proofs.Ytkmijefheejcjaa

namespace Go.Proofs.Ytkmijefheejcjaa
set_option maxRecDepth 100000
open Go.RowKit

/-- What an operation leaves: a value; a slice of n bytes that reads as bs; one that is the call's own; anything. -/
inductive Fo where
  | val (v : Value)
  | rb (n : Nat) (bs : List UInt8)
  | own (b n : Nat) (bs : List UInt8)
  | any
def Fo.holds : Fo → World → Value → Prop
  | .val u, _, v => v = u
  | .rb n bs, w, v => ∃ A c, v = .slice A n c ∧ RB w w.heap.size A bs
  | .own b n bs, w, v => ∃ A c, v = .slice A n c ∧ w.ownsRow b 5 1 (.slice A n c) n (cellsOf bs)
  | .any, _, _ => True
theorem Fo.on {w w' : World} (hb : Below w.heap.size w w') (f : Fo) (v : Value) (h : f.holds w v) : f.holds w' v := by
  cases f with
  | val u => exact h
  | rb n bs =>
    obtain ⟨A, c, e, r⟩ := h
    exact ⟨A, c, e, (r.below hb).more hb.size⟩
  | own b n bs =>
    obtain ⟨A, c, e, r⟩ := h
    exact ⟨A, c, e, own_below r hb⟩
  | any => trivial

section
variable {P : Program} {ops : Array Oper} {Q : Exit → Act → World → Prop}
theorem wp_region_owns {id : Nat} {a : Act} {w : World} (hmx : P.follows .mixedOrders = true) (k n : Nat) (L : List (Nat × Nat)) (R : List Oper) (F : List Fo) (hf : thenB ops n k = true) (hL : dstsOf ops k = L) (hR : ops.toList.drop k = R) (hn : a.tmps.size = n)
    (hop : ∀ (j : Nat) o, j < k → ops[j]? = some o → ∀ a' v K, (∀ t, (∀ p ∈ L, p.2 ≠ t) → a'.tmps.getD t undef = a.tmps.getD t undef) → (∀ p ∈ needOf ops j, (F.getD p.1 .any).holds v (a'.tmps.getD p.2 undef)) → Below w.heap.size w v →
      (∀ u v', (F.getD j .any).holds v' u → Below v.heap.size v v' → K (a'.put o.dst u) v') → o.wp P a' v K Q)
    (hend : ∀ (f : Nat → Value) v, (∀ p ∈ L, (F.getD p.1 .any).holds v (f p.1)) → Below w.heap.size w v → wpList P ops Q R (L.foldl (fun b p => b.put (some p.2) (f p.1)) a) v) : (Code.region id ops true).wp P Q a w := by
  refine wp_region_then hmx k n L R hf hL hR (fun j v u => (F.getD j .any).holds v u) (fun v => Below w.heap.size w v) hn ⟨rfl, rfl, rfl, Nat.le_refl _, fun _ _ => rfl⟩ ?_ (fun f v hf hB => hend f v hf hB)
  intro j o hj ho a' v K hk hnd hB hK
  exact hop j o hj ho a' v K hk hnd hB (fun u v' hu hb => hK u v' hu (fun i x hx => Fo.on hb _ _ hx) (bthen hB hb))
theorem owns_of {j : Nat} {F : List Fo} {v : World} {a' : Act} (hnd : ∀ p ∈ needOf ops j, (F.getD p.1 .any).holds v (a'.tmps.getD p.2 undef)) (i t : Nat) (h : (needOf ops j).contains (i, t) = true) : (F.getD i .any).holds v (a'.eval (.tmp t)) :=
  hnd (i, t) (by simpa using h)
end
end Go.Proofs.Ytkmijefheejcjaa

namespace Go.Proofs.Ytkmijefheejcjaa
set_option maxRecDepth 100000
open Go.RowKit

/-- A slice of N bytes that reads as L and is owned from block b0 on; all blocks below b0 are as in W. -/
structure Bd (W : World) (b0 : Nat) (w : World) (A : Option Addr) (N c : Nat) (L : List UInt8) : Prop where
  own : w.ownsRow b0 5 1 (.slice A N c) N (cellsOf L)
  keep : Below b0 W w
  low : b0 ≤ w.heap.size
  len : L.length = N

section
variable {W w w1 : World} {b0 : Nat} {A : Option Addr} {N c : Nat} {L : List UInt8}
theorem Bd.call (h : Bd W b0 w A N c L) (b : Below w.heap.size w w1) : Bd W b0 w1 A N c L := ⟨own_below h.own b, h.keep.trans (b.mono h.low), Nat.le_trans h.low b.size, h.len⟩
theorem Bd.row (h : Bd W b0 w A N c L) {g : Nat} {o : Obj} (hr : W.heap[g]? = some o) (hg : g < b0) : w.heap[g]? = some o := K.on h.keep hg hr
theorem Bd.rb (h : Bd W b0 w A N c L) {D : Option Addr} {ds : List UInt8} {B : Nat} (r : RB W B D ds) (hB : B ≤ b0) : RB w B D ds := r.below (h.keep.mono hB)
theorem Bd.to (h : Bd W b0 w A N c L) {M : Nat} {L' : List UInt8} (e : L = L') (hM : N = M) : Bd W b0 w A M c L' := by
  subst e
  subst hM
  exact h
theorem Bd.out {E : World} (h : Bd W b0 w A N c L) (hE : Below E.heap.size E W) (hb : E.heap.size ≤ b0) : w.ownsRow E.heap.size 5 1 (.slice A N c) N (cellsOf L) ∧ Below E.heap.size E w := ⟨own_base h.own hb, hE.trans (h.keep.mono hb)⟩
end

theorem wp_append_bd {P : Program} {o : Oper} {a : Act} {w : World} {K : Act → World → Prop} {Q : Exit → Act → World → Prop} {W : World} {b0 : Nat} {A : Option Addr} {N c : Nat} {L : List UInt8} (hP : P = Try.prog) (h0 : Bd W b0 w A N c L) (s x : Operand)
    (ho : o.op = .call { callee := .builtin .append, args := #[s, x], argTypes := #[22, 22] }) (hs : a.eval s = .slice A N c)
    (B : Nat) (D : Option Addr) (m d : Nat) (ds : List UInt8) (hx : a.eval x = .slice D m d) (hm : ds.length = m) (hr : RB w B D ds) (hn : N + m ≤ 67108864)
    (h : ∀ A2 c2 w', Bd W b0 w' A2 (N + m) c2 (L ++ ds) → w.grownBy w' (Value.slice A N c).ownBlock → K (a.put o.dst (.slice A2 (N + m) c2)) w') : o.wp P a w K Q := by
  subst hP
  have hl := h0.len
  obtain ⟨v', w', hrun, h2, h3, h4⟩ := run_append_b w o.type b0 (.slice A N c) L (by rw [hl]; exact h0.own) B D m d ds hm hr (by omega) h0.low
  unfold Oper.wp execOp
  simp only [ho, resolve, invoke, builtin, Sem.run_bind, Sem.run_pure, Result.andThen_ok, List.map_toArray, List.map_cons, List.map_nil, hs, hx, hrun]
  rw [List.length_append, hl, hm] at h2
  obtain ⟨A2, c2, rfl⟩ := own_form h2
  exact h A2 c2 w' ⟨h2, h0.keep.grown h3 h0.low (fun k hk => (h0.own.lt k hk).1), Nat.le_trans h0.low h3.size, by rw [List.length_append, hl, hm]⟩ h3
theorem wpList_append_bd {ops : Array Oper} {rest : List Oper} {o : Oper} {a : Act} {w : World} {Q : Exit → Act → World → Prop} {W : World} {b0 : Nat} {A : Option Addr} {N c : Nat} {L : List UInt8} (hgd : o.guard = none) (h0 : Bd W b0 w A N c L) (s x : Operand)
    (ho : o.op = .call { callee := .builtin .append, args := #[s, x], argTypes := #[22, 22] }) (hs : a.eval s = .slice A N c)
    (B : Nat) (D : Option Addr) (m d : Nat) (ds : List UInt8) (hx : a.eval x = .slice D m d) (hm : ds.length = m) (hr : RB w B D ds) (hn : N + m ≤ 67108864) (M : Nat) (hM : N + m = M)
    (h : ∀ A2 c2 w', Bd W b0 w' A2 M c2 (L ++ ds) → wpList Try.prog ops Q rest (a.put o.dst (.slice A2 M c2)) w') : wpList Try.prog ops Q (o :: rest) a w := by
  subst hM
  exact wpList_plain hgd fun K hK => wp_append_bd rfl h0 s x ho hs B D m d ds hx hm hr hn fun A2 c2 w' hb _ => hK _ _ (h A2 c2 w' hb)

section
variable {P : Program} {ops : Array Oper} {Q : Exit → Act → World → Prop}
/-- A region with one append (operation p) among its first operations, which leave values and rows of their own besides. -/
theorem wp_region_apps {id : Nat} {a : Act} {w : World} (hmx : P.follows .mixedOrders = true) (k n : Nat) (L : List (Nat × Nat)) (R : List Oper) (F : List Fo) (hf : thenB ops n k = true) (hL : dstsOf ops k = L) (hR : ops.toList.drop k = R) (p dp : Nat) (hpk : p < k) (hpL : (p, dp) ∈ L) (hn : a.tmps.size = n)
    (hF : ∀ f ∈ F, match f with | .val _ => True | .own b _ _ => b = w.heap.size | .any => True | .rb _ _ => False)
    {W : World} {b0 : Nat} {A0 : Option Addr} {n0 c0 : Nat} {L0 : List UInt8} (h0 : Bd W b0 w A0 n0 c0 L0) (n1 : Nat) (L1 : List UInt8) (hl1 : L1.length = n1)
    (hop : ∀ (j : Nat) o, j < k → j ≠ p → ops[j]? = some o → ∀ a' v K, (∀ t, (∀ q ∈ L, q.2 ≠ t) → a'.tmps.getD t undef = a.tmps.getD t undef) → (∀ q ∈ needOf ops j, q.1 ≠ p → (F.getD q.1 .any).holds v (a'.tmps.getD q.2 undef)) → Below b0 W v → w.heap.size ≤ v.heap.size →
      (∀ u v', (F.getD j .any).holds v' u → Below v.heap.size v v' → K (a'.put o.dst u) v') → o.wp P a' v K Q)
    (hpp : ∀ o, ops[p]? = some o → ∀ a' v K, (∀ t, (∀ q ∈ L, q.2 ≠ t) → a'.tmps.getD t undef = a.tmps.getD t undef) → (∀ q ∈ needOf ops p, q.1 ≠ p → (F.getD q.1 .any).holds v (a'.tmps.getD q.2 undef)) → Bd W b0 v A0 n0 c0 L0 → w.heap.size ≤ v.heap.size →
      (∀ A c v', Bd W b0 v' A n1 c L1 → v.grownBy v' (Value.slice A0 n0 c0).ownBlock → K (a'.put o.dst (.slice A n1 c)) v') → o.wp P a' v K Q)
    (hend : ∀ (f : Nat → Value) v A c, (∀ q ∈ L, q.1 ≠ p → (F.getD q.1 .any).holds v (f q.1)) → f p = .slice A n1 c → Bd W b0 v A n1 c L1 → wpList P ops Q R (L.foldl (fun b q => b.put (some q.2) (f q.1)) a) v) : (Code.region id ops true).wp P Q a w := by
  have hlt : ∀ k, (Value.slice A0 n0 c0).ownBlock = some k → k < w.heap.size := fun k hk => (h0.own.lt k hk).2
  have hFj : ∀ i (v v' : World) (u : Value), v.grownBy v' (Value.slice A0 n0 c0).ownBlock → (F.getD i .any).holds v u → (F.getD i .any).holds v' u := by
    intro i v v' u hg hh
    by_cases hi : i < F.length
    · have hm := hF (F.getD i .any) (by rw [List.getD_eq_getElem?_getD, List.getElem?_eq_getElem hi]; exact List.getElem_mem hi)
      generalize F.getD i .any = f at hm hh ⊢
      cases f with
      | val u => exact hh
      | rb n bs => exact hm.elim
      | any => trivial
      | own b n bs =>
        obtain ⟨A, c, e, r⟩ := hh
        simp only at hm
        subst hm
        exact ⟨A, c, e, own_grown r hg (fun k hk e => by have := (r.lt k hk).1; have := hlt k e; omega)⟩
    · have : F.getD i .any = .any := by rw [List.getD_eq_getElem?_getD, List.getElem?_eq_none (by omega)]; rfl
      rw [this]
      trivial
  refine wp_region_thenP hmx k n L R hf hL hR
    (fun j b v u => if j = p then (b = true → ∃ A c, u = .slice A n1 c ∧ v.ownsRow b0 5 1 (.slice A n1 c) n1 (cellsOf L1)) else (F.getD j .any).holds v u)
    (fun b v => Below b0 W v ∧ b0 ≤ v.heap.size ∧ w.heap.size ≤ v.heap.size ∧ (b = false → v.ownsRow b0 5 1 (.slice A0 n0 c0) n0 (cellsOf L0))) p hpk hn ?_ ?_ ?_ ?_
  · exact ⟨⟨h0.keep.os, h0.keep.tape, h0.keep.output, h0.keep.size, h0.keep.block⟩, h0.low, Nat.le_refl _, fun _ => h0.own⟩
  · intro j o hj hjp ho b a' v K hk hnd hI hK
    refine hop j o hj hjp ho a' v K hk (fun q hq hqp => by have := hnd q hq; rwa [if_neg hqp] at this) hI.1 hI.2.2.1 (fun u v' hu hb => hK u v' (by rw [if_neg hjp]; exact hu) (fun i x hx => ?_) ⟨hI.1.trans (hb.mono hI.2.1), Nat.le_trans hI.2.1 hb.size, Nat.le_trans hI.2.2.1 hb.size, fun e => own_below (hI.2.2.2 e) hb⟩)
    by_cases hip : i = p
    · rw [if_pos hip] at hx ⊢
      intro hb1
      obtain ⟨A, c, e, r⟩ := hx hb1
      exact ⟨A, c, e, own_below r hb⟩
    · rw [if_neg hip] at hx ⊢
      exact Fo.on hb _ _ hx
  · intro o ho a' v K hk hnd hI hK
    refine hpp o ho a' v K hk (fun q hq hqp => by have := hnd q hq; rwa [if_neg hqp] at this) ⟨hI.2.2.2 rfl, hI.1, hI.2.1, h0.len⟩ hI.2.2.1 (fun A c v' hb hg => hK _ v' (by rw [if_pos rfl]; exact fun _ => ⟨A, c, rfl, hb.own⟩) (fun i u hip hu => ?_) ⟨hb.keep, hb.low, Nat.le_trans hI.2.2.1 hg.size, fun e => by cases e⟩)
    rw [if_neg hip] at hu ⊢
    exact hFj i v v' u hg hu
  · intro f v hf' hI
    have hp := hf' (p, dp) hpL
    simp only [if_true] at hp
    obtain ⟨A, c, e, r⟩ := hp trivial
    exact hend f v A c (fun q hq hqp => by have := hf' q hq; rwa [if_neg hqp] at this) e ⟨r, hI.1, hI.2.1, hl1⟩
theorem apps_of {j p : Nat} {F : List Fo} {v : World} {a' : Act} (hnd : ∀ q ∈ needOf ops j, q.1 ≠ p → (F.getD q.1 .any).holds v (a'.tmps.getD q.2 undef)) (i t : Nat) (h : (needOf ops j).contains (i, t) = true) (hi : i ≠ p) : (F.getD i .any).holds v (a'.eval (.tmp t)) :=
  hnd (i, t) (by simpa using h) hi
end
end Go.Proofs.Ytkmijefheejcjaa

namespace Go.Proofs.Ytkmijefheejcjaa
set_option maxRecDepth 100000
open Go.RowKit

/-- The slice that begins at A reads as the cells vs, and lies below block number B. -/
def RV (w : World) (B : Nat) (A : Option Addr) (vs : List Value) : Prop :=
  0 < vs.length → ∃ g o, A = some ⟨g, o, none⟩ ∧ g < B ∧ ∀ j v, vs[j]? = some v → w.cell? ⟨g, o + j, none⟩ = some v

section
variable {w w' : World} {B B' : Nat} {A : Option Addr} {vs : List Value}

theorem RV.below (h : RV w B A vs) (hb : Below B w w') : RV w' B A vs := by
  intro hp
  obtain ⟨g, o, e, hg, hc⟩ := h hp
  exact ⟨g, o, e, hg, fun j u hu => (hb.cell (p := ⟨g, o + j, none⟩) hg).trans (hc j u hu)⟩

theorem RV.more (h : RV w B A vs) (hB : B ≤ B') : RV w B' A vs := by
  intro hp
  obtain ⟨g, o, e, hg, hc⟩ := h hp
  exact ⟨g, o, e, by omega, hc⟩

theorem RV.on (h : RV w w.heap.size A vs) (hb : Below w.heap.size w w') : RV w' w'.heap.size A vs := (h.below hb).more hb.size

theorem RV.nil_ (w : World) (B : Nat) (A : Option Addr) : RV w B A [] := fun h => absurd h (by simp)

theorem RV.of_own {base size : Nat} {e : TypeId} {n c : Nat} (h : w.ownsRow base e size (.slice A n c) n vs) : RV w w.heap.size A vs := by
  intro hp
  have hl := h.1
  rcases h.2 with ⟨h1, h2⟩ | ⟨g, cap, cur, hv, _, hg, _⟩
  · rw [h2, Nat.zero_mul] at hl
    omega
  · injection hv with hA hn hc
    subst hA
    subst hc
    refine ⟨g, 0, rfl, (Array.getElem?_eq_some_iff.1 hg).1, fun j u hu => ?_⟩
    have hj : j < vs.length := by
      rcases Nat.lt_or_ge j vs.length with h | h
      · exact h
      · rw [List.getElem?_eq_none h] at hu; cases hu
    rw [Nat.zero_add, h.cellAt j (by omega)]
    exact hu

theorem RV.at_ (h : RV w B A vs) {k : Nat} (hk : k < vs.length) : ∃ g o, A = some ⟨g, o, none⟩ ∧ g < B ∧ w.cell? ⟨g, o + k, none⟩ = some vs[k] := by
  obtain ⟨g, o, e, hg, hc⟩ := h (by omega)
  exact ⟨g, o, e, hg, hc k _ (List.getElem?_eq_getElem hk)⟩

/-- A new row reads as its cells. -/
theorem RV.new (w : World) (e : TypeId) (vs : List Value) : RV (w.alloc (.cells vs.toArray e)) (w.heap.size + 1) (some ⟨w.heap.size, 0, none⟩) vs := by
  intro hp
  refine ⟨w.heap.size, 0, rfl, by omega, fun j u hu => ?_⟩
  rw [cell_of_row _ w.heap.size (0 + j) _ e (0, 0) (heap_alloc_new w _)]
  simpa using hu
end

theorem run_append_v (w : World) (t ty e : TypeId) (i0 : TypeInfo) (z : Value) (size bytes : Nat) (ht : Try.prog.underlying t = some (.slice e)) (hi0 : Try.prog.info? e = some i0) (hz0 : i0.zero = some z) (hz1 : i0.size = size) (hz2 : i0.bytes = bytes) (hzs : z.cells.size = size) (hsz : 0 < size)
    (base : Nat) (v : Value) (n : Nat) (xs : List Value) (hown : w.ownsRow base e size v n xs) (B : Nat) (A : Option Addr) (m c : Nat) (ds : List Value) (hm : ds.length = m * size) (hr : RV w B A ds) (h1 : ∀ u ∈ ds, u.oneCell' = true)
    (h63 : n + m ≤ maxLen) (hby : (n + m) * bytes ≤ 140737488355328) (hbase : base ≤ w.heap.size) :
    ∃ v' w', (Builtin.append_ #[t, t] ty #[v, .slice A m c]).run Try.prog w = .ok v' w' ∧ w'.ownsRow base e size v' (n + m) (xs ++ ds) ∧ w.grownBy w' v.ownBlock ∧
      (v'.ownBlock = v.ownBlock ∨ v'.ownBlock = some w.heap.size) := by
  rcases A with _ | ad
  · have h0 : ds = [] := by
      rcases ds with _ | ⟨d, ds⟩
      · rfl
      · obtain ⟨g, o, h, _⟩ := hr (by simp)
        cases h
    subst h0
    have hm0 : m = 0 := by
      rcases Nat.mul_eq_zero.1 (show m * size = 0 from hm.symm) with h | h
      · exact h
      · omega
    subst hm0
    refine ⟨v, w, ?_, by simpa using hown, World.grownBy.refl _ _, .inl rfl⟩
    rcases hown.2 with ⟨rfl, h0⟩ | ⟨g, cap, cur, rfl, _, _, hnc, _⟩
    · simp [Builtin.append_, run_underlying ht, sizeOf, typeInfo, hi0, Builtin.lenOf, Builtin.firstCells]
    · simp [Builtin.append_, run_underlying ht, sizeOf, typeInfo, hi0, Builtin.lenOf, Builtin.firstCells, hnc, storeCells]
  · obtain ⟨v', w', g1, g2, g3, _, g5⟩ := run_append_own_at (P := Try.prog) w base t ty e i0 z size bytes ht hi0 hz0 hz1 hz2 hzs hsz v n xs hown ad m c ds hm (by
        intro j u hu
        have hj : j < ds.length := by
          rcases Nat.lt_or_ge j ds.length with h | h
          · exact h
          · rw [List.getElem?_eq_none h] at hu; cases hu
        obtain ⟨g, o, h, _, hc⟩ := hr (by omega)
        injection h with h
        subst h
        rw [addr_add]
        exact hc j u hu) h1 h63 hby hbase
    exact ⟨v', w', g1, g2, g3, g5⟩

/-- The cells of a list of integers. -/
def intsOf (xs : List Int) : List Value := xs.map fun n => .int .i64 n

theorem intsOf_length (xs : List Int) : (intsOf xs).length = xs.length := by simp [intsOf]
theorem intsOf_get (xs : List Int) (j : Nat) (u : Int) (h : xs[j]? = some u) : (intsOf xs)[j]? = some (.int .i64 u) := by simp [intsOf, h]
theorem intsOf_append (a b : List Int) : intsOf (a ++ b) = intsOf a ++ intsOf b := by simp [intsOf]
theorem intsOf_one (xs : List Int) : ∀ u ∈ intsOf xs, u.oneCell' = true := by
  intro u hu
  simp only [intsOf, List.mem_map] at hu
  obtain ⟨b, _, rfl⟩ := hu
  rfl
theorem RV.int {w : World} {B : Nat} {A : Option Addr} {xs : List Int} (h : RV w B A (intsOf xs)) {k : Nat} (hk : k < xs.length) : ∃ g o, A = some ⟨g, o, none⟩ ∧ g < B ∧ w.cell? ⟨g, o + k, none⟩ = some (.int .i64 xs[k]) := by
  obtain ⟨g, o, e, hg, hc⟩ := h (by rw [intsOf_length]; omega)
  exact ⟨g, o, e, hg, hc k _ (intsOf_get _ _ _ (List.getElem?_eq_getElem hk))⟩

theorem info_int : (Try.prog.info? 3).map (fun i => (i.zero, i.size, i.bytes)) = some (some (.int .i64 0), 1, 8) := by kernel_rfl

theorem run_append_i (w : World) (ty base : Nat) (v : Value) (n : Nat) (xs : List Int) (hown : w.ownsRow base 3 1 v n (intsOf xs)) (B : Nat) (A : Option Addr) (m c : Nat) (ds : List Int) (hm : ds.length = m) (hr : RV w B A (intsOf ds))
    (hn : n + m ≤ 67108864) (hbase : base ≤ w.heap.size) :
    ∃ v' w', (Builtin.append_ #[43, 43] ty #[v, .slice A m c]).run Try.prog w = .ok v' w' ∧ w'.ownsRow base 3 1 v' (n + m) (intsOf (xs ++ ds)) ∧ w.grownBy w' v.ownBlock ∧
      (v'.ownBlock = v.ownBlock ∨ v'.ownBlock = some w.heap.size) := by
  obtain ⟨i0, hi0, hz0, hz1, hz2⟩ := info_parts info_int
  rw [intsOf_append]
  exact run_append_v w 43 ty 3 i0 (.int .i64 0) 1 8 Try.underlying43 hi0 hz0 hz1 hz2 rfl (by omega) base v n _ hown B A m c _ (by rw [intsOf_length, hm, Nat.mul_one]) hr (intsOf_one ds) (by unfold maxLen; omega) (by omega) hbase

/-- 'append' onto a row of integers of the call's own, from whatever source of integers. -/
theorem wpList_append_i {w : World} {ops : Array Oper} {rest : List Oper} {o : Oper} {a : Act} {Q : Exit → Act → World → Prop} (hgd : o.guard = none) (s x : Operand)
    (ho : o.op = .call { callee := .builtin .append, args := #[s, x], argTypes := #[43, 43] }) (base : Nat) (v : Value) (n : Nat) (xs : List Int) (hs : a.eval s = v) (hown : w.ownsRow base 3 1 v n (intsOf xs))
    (B : Nat) (A : Option Addr) (m c : Nat) (ds : List Int) (hx : a.eval x = .slice A m c) (hm : ds.length = m) (hr : RV w B A (intsOf ds)) (hn : n + m ≤ 67108864) (hbase : base ≤ w.heap.size)
    (h : ∀ v' w', w'.ownsRow base 3 1 v' (n + m) (intsOf (xs ++ ds)) → w.grownBy w' v.ownBlock → (v'.ownBlock = v.ownBlock ∨ v'.ownBlock = some w.heap.size) → wpList Try.prog ops Q rest (a.put o.dst v') w') :
    wpList Try.prog ops Q (o :: rest) a w := by
  refine wpList_plain hgd fun K hK => ?_
  obtain ⟨v', w', hrun, h2, h3, h4⟩ := run_append_i w o.type base v n xs hown B A m c ds hm hr hn hbase
  unfold Oper.wp execOp
  simp only [ho, resolve, invoke, builtin, Sem.run_bind, Sem.run_pure, Result.andThen_ok, List.map_toArray, List.map_cons, List.map_nil, hs, hx, hrun]
  exact hK _ _ (h v' w' h2 h3 h4)

/-- The same, as one step of a region that draws its order. -/
theorem step_append_i {w : World} {ops : Array Oper} {o : Oper} {a : Act} {K : Act → World → Prop} {Q : Exit → Act → World → Prop} {E : Prop} (hgd : o.guard = none) (s x : Operand)
    (ho : o.op = .call { callee := .builtin .append, args := #[s, x], argTypes := #[43, 43] }) (base : Nat) (v : Value) (n : Nat) (xs : List Int) (hs : a.eval s = v) (hown : w.ownsRow base 3 1 v n (intsOf xs))
    (B : Nat) (A : Option Addr) (m c : Nat) (ds : List Int) (hx : a.eval x = .slice A m c) (hm : ds.length = m) (hr : RV w B A (intsOf ds)) (hn : n + m ≤ 67108864) (hbase : base ≤ w.heap.size)
    (h : ∀ v' w', w'.ownsRow base 3 1 v' (n + m) (intsOf (xs ++ ds)) → w.grownBy w' v.ownBlock → (v'.ownBlock = v.ownBlock ∨ v'.ownBlock = some w.heap.size) → K (a.put o.dst v') w') :
    if Region.wanted o (yielded ops a.tmps) = true then Oper.wp Try.prog o a w K Q else E := by
  have hw : Region.wanted o (yielded ops a.tmps) = true := by simp [Region.wanted, hgd]
  rw [if_pos hw]
  obtain ⟨v', w', hrun, h2, h3, h4⟩ := run_append_i w o.type base v n xs hown B A m c ds hm hr hn hbase
  unfold Oper.wp execOp
  simp only [ho, resolve, invoke, builtin, Sem.run_bind, Sem.run_pure, Result.andThen_ok, List.map_toArray, List.map_cons, List.map_nil, hs, hx, hrun]
  exact h v' w' h2 h3 h4
end Go.Proofs.Ytkmijefheejcjaa

namespace Go.Proofs.Ytkmijefheejcjaa
set_option maxRecDepth 100000
open Go.RowKit

theorem int_fill (pre tail : List Int) (x b : Int) (k : Nat) (hk : pre.length = k) : (intsOf (pre ++ x :: tail)).set k (.int .i64 b) = intsOf ((pre ++ [b]) ++ tail) := by
  have h := set_mid (intsOf pre) (.int .i64 x) (.int .i64 b) (intsOf tail) k (by rw [intsOf_length]; exact hk)
  simpa [intsOf] using h

theorem int_copy (xs : List Int) (k : Nat) (h : k < xs.length) :
    (intsOf (xs.take k ++ List.replicate (xs.length - k) 0)).set k (.int .i64 xs[k]) = intsOf (xs.take (k + 1) ++ List.replicate (xs.length - (k + 1)) 0) := by
  rw [show xs.length - k = (xs.length - (k + 1)) + 1 by omega, List.replicate_succ, int_fill _ _ _ _ k (by simp; omega), take_snoc xs k h]





/-- A slice of integers that came in: what the walk is told of it. -/
structure InI (w : World) (A : Option Addr) (n c : Nat) (xs : List Int) : Prop where
  len : xs.length = n
  cap : n ≤ c
  big : c ≤ maxLen
  rb : RV w w.heap.size A (intsOf xs)
  wf : ∀ x ∈ xs, (Lit.int .i64 x).wf = true

open Go.ChangeShapes Go.WideShapes Go.ChangeAt in
theorem ints_in {H : Type} {enc : TypeId × Value → H} {w : World} {A : Option Addr} {n c : Nat} {d : DataW H} {p : List MemPlace} (h : DataW.Trod enc Try.prog w 0 (fun _ => true) true 43 (.slice A n c) d p) :
    ∃ xs, InI w A n c xs := by
  obtain ⟨fuel, hf⟩ := h
  rcases open_ints Try.underlying43 Try.underlying3 (by kernel_rfl) hf with ⟨hcs, _⟩ | ⟨x, l, cp, zs, hcs, _, hl, hm, hz, _, hcell, hwz⟩
  · simp [Value.cells] at hcs
    obtain ⟨rfl, rfl, rfl⟩ := hcs
    exact ⟨[], rfl, Nat.le_refl _, Nat.zero_le _, RV.nil_ _ _ _, by simp⟩
  · simp [Value.cells] at hcs
    obtain ⟨rfl, rfl, rfl⟩ := hcs
    simp only [if_true] at hz
    refine ⟨zs.take n, by simp; omega, hl, hm, fun hp => ?_, fun x hx => hwz x (List.mem_of_mem_take hx)⟩
    simp only [intsOf_length, List.length_take] at hp
    obtain ⟨g, o, spot⟩ := x
    have h0 := hcell 0 (by omega)
    have hspot : spot = none := by simpa [Addr.add] using World.cell?_spot h0
    subst hspot
    refine ⟨g, o, rfl, ?_, fun j u hu => ?_⟩
    · have := World.block_lt_of_cell? w _ h0
      simpa [addr_add] using this
    · simp only [intsOf, List.getElem?_map, Option.map_eq_some_iff, List.getElem?_take] at hu
      obtain ⟨z, hz1, rfl⟩ := hu
      split at hz1
      · have hj : j < zs.length := by omega
        have hc := hcell j hj
        rw [addr_add] at hc
        rw [hc]
        have hzj : zs[j] = z := by rw [List.getElem?_eq_getElem hj] at hz1; simpa using hz1
        simp [hj, hzj]
      · cases hz1
end Go.Proofs.Ytkmijefheejcjaa

namespace Go.Proofs.Ytkmijefheejcjaa
set_option maxRecDepth 100000
open Go.RowKit

theorem isWord_le {n : Int} (h : isWord n = true) : decide (n ≤ 65535) = true := by
  have := isWord_iff.1 h
  simp; omega

set_option maxHeartbeats 400000 in
theorem wordC (n : Int) (w : World) : Calls Try.prog 124 #[.int .i64 n] w fun e w' => e = .returned (.bool (isWord n)) ∧ w = w' := by
  by_cases h0 : 0 ≤ n
  · by_cases h1 : n ≤ 65535
    · have H := Lib.hid (isWord_iff.2 ⟨h0, h1⟩)
      go_enter Try.func124, Try.ntmps124
      go_wp2
      go_ret
      exact ⟨ret_bool H.out.symm, rfl⟩
    · have H := Lib.hid (isWord_not.2 (show n < 0 ∨ 65535 < n by omega))
      go_enter Try.func124, Try.ntmps124
      go_wp2
      go_ret
      exact ⟨ret_bool H.out.symm, rfl⟩
  · have H := Lib.hid (isWord_not.2 (show n < 0 ∨ 65535 < n by omega))
    go_enter Try.func124, Try.ntmps124
    go_wp2
    go_ret
    exact ⟨ret_bool H.out.symm, rfl⟩

theorem folded2 {a b : Int} (ha : isWord a = true) (hb : isWord b = true) : folded [a, b] = sadd a b := by
  rw [folded_yes (by simp [ha, hb]), sums, List.foldl_cons, sadd_zero ha]
  rfl

set_option maxHeartbeats 400000 in
theorem specAdd (a b : Int) (w : World) : Calls Try.prog 77 #[.int .i64 a, .int .i64 b] w fun e w' => e = .returned (.int .i64 (folded [a, b])) ∧ w = w' := by
  cases ha : isWord a with
  | true =>
    cases hb : isWord b with
    | true =>
      obtain ⟨a0, a1⟩ := isWord_iff.1 ha
      obtain ⟨b0, b1⟩ := isWord_iff.1 hb
      by_cases hbig : 65535 < a + b
      · have H := Lib.hid (show folded [a, b] = a + b - 65535 by rw [folded2 ha hb, sadd, if_pos hbig])
        go_enter Try.func77, Try.ntmps77
        go_wp2_with (go_at_call 124; refine (wordC _ _).mono ?_; rintro e w' ⟨rfl, rfl⟩)
        go_ret
        exact ⟨ret_int H.out.symm, rfl⟩
      · have H := Lib.hid (show folded [a, b] = a + b by rw [folded2 ha hb, sadd, if_neg hbig])
        go_enter Try.func77, Try.ntmps77
        go_wp2_with (go_at_call 124; refine (wordC _ _).mono ?_; rintro e w' ⟨rfl, rfl⟩)
        go_ret
        exact ⟨ret_int H.out.symm, rfl⟩
    | false =>
      have H := Lib.hid (show folded [a, b] = -1 from folded_no 1 (by simp) hb)
      go_enter Try.func77, Try.ntmps77
      go_wp2_with (go_at_call 124; refine (wordC _ _).mono ?_; rintro e w' ⟨rfl, rfl⟩)
      go_ret
      exact ⟨ret_int H.out.symm, rfl⟩
  | false =>
    have H := Lib.hid (show folded [a, b] = -1 from folded_no 0 (by simp) ha)
    go_enter Try.func77, Try.ntmps77
    go_wp2_with (go_at_call 124; refine (wordC _ _).mono ?_; rintro e w' ⟨rfl, rfl⟩)
    go_ret
    exact ⟨ret_int H.out.symm, rfl⟩

theorem specAddW (a b : Int) (w : World) (ha : isWord a = true) (hb : isWord b = true) : Calls Try.prog 77 #[.int .i64 a, .int .i64 b] w fun e w' => e = .returned (.int .i64 (sadd a b)) ∧ w = w' := by
  have := specAdd a b w
  rwa [folded2 ha hb] at this

set_option maxRecDepth 100000 in
set_option maxHeartbeats 1000000 in
theorem specOnes (A : Option Addr) (n c : Nat) (bs : List UInt8) (w : World) (hr : RB w w.heap.size A bs) (hl : bs.length = n) (hn : n ≤ 1048576) :
    Calls Try.prog 78 #[.slice A n c] w fun e w' => e = .returned (.int .i64 (onesSum bs)) ∧ w = w' := by
  subst hl
  by_cases h : 2000 < bs.length
  · have H := Lib.hid (show onesSum bs = -1 by rw [onesSum, if_pos h])
    go_enter Try.func78, Try.ntmps78
    go_wp2
    go_ret
    exact ⟨ret_int H.out.symm, rfl⟩
  · have H := Lib.hid (show onesSum bs = sums 0 (wordsL bs) by rw [onesSum, if_neg h])
    go_enter Try.func78, Try.ntmps78
    go_wp2
    go_loop [3, 4] (fun s i => ∃ k : Nat, k ≤ bs.length + 1 ∧ k % 2 = 0 ∧ i = .int .i64 k ∧ s = .int .i64 (sums 0 (wordsL (bs.take k)))) (fun _ i => bs.length + 1 - (intOf i).toNat)
    case atStart => exact ⟨0, Nat.zero_le _, rfl, rfl, rfl⟩
    case round =>
      obtain ⟨k, hk, he, rfl, rfl⟩ := hrel
      have hsw := sums_word _ 0 (by decide) (wordsL_word (bs.take k))
      have He := Lib.hid he
      clear he
      by_cases hlt : k < bs.length
      · obtain ⟨g, o, rfl, hg, hc⟩ := hr.at_ hlt
        have hb8 : bs[k].toNat < 256 := UInt8.toNat_lt _
        have hkI : (k : Int) < (bs.length : Int) := by omega
        by_cases hlt2 : k + 1 < bs.length
        · obtain ⟨g', o', hgo, hg', hc'⟩ := hr.at_ hlt2
          injection hgo with hgo
          injection hgo with h1 h2
          subst h1
          subst h2
          have hb9 : bs[k + 1].toNat < 256 := UInt8.toNat_lt _
          have hkJ : (k : Int) + 1 < (bs.length : Int) := by omega
          have hww : isWord (256 * (bs[k].toNat : Int) + bs[k + 1].toNat) = true := isWord_iff.2 (by omega)
          have E := Lib.hid (show sums 0 (wordsL (bs.take (k + 2))) = sadd (sums 0 (wordsL (bs.take k))) (256 * (bs[k].toNat : Int) + bs[k + 1].toNat) by rw [wordsL_odd bs k hlt2 He.out, sums_snoc])
          have Hsw := Lib.hid hsw
          have Hww := Lib.hid hww
          clear hsw hww hr
          go_wp2_with (go_at_call 77; refine (specAddW _ _ _ Hsw.out Hww.out).mono ?_; rintro e w' ⟨rfl, rfl⟩)
          go_round
          case rel => exact ⟨k + 2, by omega, by have := He.out; omega, by go_num, by rw [E.out]⟩
          case measure => simp [intOf]; omega
        · have hkJ : ¬ (k : Int) + 1 < (bs.length : Int) := by omega
          have hww : isWord (256 * (bs[k].toNat : Int)) = true := isWord_iff.2 (by omega)
          have E := Lib.hid (show sums 0 (wordsL (bs.take (k + 2))) = sadd (sums 0 (wordsL (bs.take k))) (256 * (bs[k].toNat : Int)) by
            rw [show bs.take (k + 2) = bs.take (k + 1) by rw [List.take_of_length_le (show bs.length ≤ k + 2 by omega), List.take_of_length_le (show bs.length ≤ k + 1 by omega)], wordsL_even bs k hlt He.out, sums_snoc])
          have Hsw := Lib.hid hsw
          have Hww := Lib.hid hww
          clear hsw hww hr
          go_wp2_with (go_at_call 77; refine (specAddW _ _ _ Hsw.out Hww.out).mono ?_; rintro e w' ⟨rfl, rfl⟩)
          go_round
          case rel => exact ⟨k + 2, by omega, by have := He.out; omega, by go_num, by rw [E.out]⟩
          case measure => simp [intOf]; omega
      · have e : bs.take k = bs := List.take_of_length_le (by omega)
        rw [e]
        clear hsw hr
        go_wp2
        go_ret
        exact ⟨ret_int H.out.symm, rfl⟩





end Go.Proofs.Ytkmijefheejcjaa

namespace Go.Proofs.Ytkmijefheejcjaa
set_option maxRecDepth 100000
open Go.RowKit

set_option maxHeartbeats 400000 in
theorem compC (n : Int) (w : World) : Calls Try.prog 85 #[.int .i64 n] w fun e w' => e = .returned (.int .i64 (comp n)) ∧ w = w' := by
  cases h : isWord n with
  | true =>
    have H := Lib.hid (comp_yes h)
    have hr := isWord_iff.1 h
    obtain ⟨r1, r2⟩ := hr
    clear h
    go_enter Try.func85, Try.ntmps85
    go_wp2_with (go_at_call 102; refine (within_yes _ _ _ _ (by omega) (by omega)).mono ?_; rintro e w' ⟨rfl, rfl⟩)
    go_ret
    exact ⟨ret_int H.out.symm, rfl⟩
  | false =>
    have H := Lib.hid (comp_no h)
    have hr := Lib.hid (isWord_not.1 h)
    clear h
    go_enter Try.func85, Try.ntmps85
    go_wp2_with (go_at_call 102; refine (within_no _ _ _ _ hr.out).mono ?_; rintro e w' ⟨rfl, rfl⟩)
    go_ret
    exact ⟨ret_int H.out.symm, rfl⟩

set_option maxHeartbeats 1000000 in
theorem foldedC (A : Option Addr) (n c : Nat) (ws : List Int) (w : World) (hr : RV w w.heap.size A (intsOf ws)) (hl : ws.length = n) (hn : n ≤ 1048576) :
    Calls Try.prog 86 #[.slice A n c] w fun e w' => e = .returned (.int .i64 (folded ws)) ∧ w = w' := by
  subst hl
  go_enter Try.func86, Try.ntmps86
  go_wp2
  go_loop [3, 8] (fun s i => ∃ k : Nat, k ≤ ws.length ∧ i = .int .i64 k ∧ (ws.take k).all isWord = true ∧ s = .int .i64 (sums 0 (ws.take k))) (fun _ i => ws.length - (intOf i).toNat)
  case atStart => exact ⟨0, Nat.zero_le _, rfl, rfl, rfl⟩
  case round =>
    obtain ⟨k, hk, rfl, hall, rfl⟩ := hrel
    by_cases hlt : k < ws.length
    · obtain ⟨g, o, rfl, hg, hc⟩ := hr.int hlt
      obtain ⟨s0, s1⟩ := isWord_iff.1 (sums_word _ 0 (by decide) hall)
      cases hx : isWord ws[k] with
      | true =>
        obtain ⟨x0, x1⟩ := isWord_iff.1 hx
        have Hall := Lib.hid (all_take_snoc ws k hlt hall hx)
        have Hs := Lib.hid (show sums 0 (ws.take (k + 1)) = sadd (sums 0 (ws.take k)) ws[k] by rw [take_snoc ws k hlt, sums_snoc])
        obtain ⟨s, hs⟩ : ∃ s, s = sums 0 (ws.take k) := ⟨_, rfl⟩
        obtain ⟨x, hx'⟩ : ∃ x, x = ws[k] := ⟨_, rfl⟩
        rw [← hs, ← hx'] at Hs
        rw [← hs] at s0 s1
        rw [← hx'] at x0 x1 hc
        rw [← hs]
        clear hs hx hx' hall hr
        by_cases hbig : 65535 < s + x
        · have e := Lib.hid (show sadd s x = s + x - 65535 by rw [sadd, if_pos hbig])
          go_wp2_with (go_at_call 102; refine (within_yes _ _ _ _ (by omega) (by omega)).mono ?_; rintro e w' ⟨rfl, rfl⟩)
          go_round
          case rel => exact ⟨k + 1, by omega, by go_num, Hall.out, by rw [Hs.out, e.out]⟩
          case measure => simp [intOf]; omega
        · have e := Lib.hid (show sadd s x = s + x by rw [sadd, if_neg hbig])
          go_wp2_with (go_at_call 102; refine (within_yes _ _ _ _ (by omega) (by omega)).mono ?_; rintro e w' ⟨rfl, rfl⟩)
          go_round
          case rel => exact ⟨k + 1, by omega, by go_num, Hall.out, by rw [Hs.out, e.out]⟩
          case measure => simp [intOf]; omega
      | false =>
        have H := Lib.hid (folded_no k hlt hx)
        have hno := Lib.hid (isWord_not.1 hx)
        clear hall hx hr
        go_wp2_with (go_at_call 102; refine (within_no _ _ _ _ hno.out).mono ?_; rintro e w' ⟨rfl, rfl⟩)
        go_ret
        exact ⟨ret_int H.out.symm, rfl⟩
    · obtain rfl : k = ws.length := by omega
      rw [List.take_length] at hall
      have H := Lib.hid (folded_yes hall)
      rw [List.take_length]
      clear hall
      go_wp2
      go_ret
      exact ⟨ret_int H.out.symm, rfl⟩

/-- The row of words as it is being filled. -/
def wRow (bs : List UInt8) (k : Nat) : List Int := wordsL (bs.take k) ++ List.replicate ((bs.length + 1) / 2 - (k + 1) / 2) 0
theorem wRow_zero (bs : List UInt8) : wRow bs 0 = List.replicate ((bs.length + 1) / 2) 0 := by simp [wRow, wordsL]
theorem wRow_full (bs : List UInt8) : wRow bs bs.length = wordsL bs := by simp [wRow]
theorem wRow_length (bs : List UInt8) (k : Nat) (h : k ≤ bs.length) : (wRow bs k).length = (bs.length + 1) / 2 := by
  rw [wRow, List.length_append, wordsL_length, List.length_replicate, List.length_take, Nat.min_eq_left h]
  omega
theorem wRow_even (bs : List UInt8) (k : Nat) (h : k < bs.length) (he : k % 2 = 0) :
    (intsOf (wRow bs k)).set (k / 2) (.int .i64 ((bs[k].toNat : Int) * 256)) = intsOf (wRow bs (k + 1)) := by
  rw [wRow, wRow, show (bs.length + 1) / 2 - (k + 1) / 2 = ((bs.length + 1) / 2 - (k + 1 + 1) / 2) + 1 by omega, List.replicate_succ, int_fill _ _ _ _ (k / 2) (by rw [wordsL_length, List.length_take]; omega), wordsL_even bs k h he, Int.mul_comm]
theorem wRow_get (bs : List UInt8) (k : Nat) (h : k < bs.length) (he : k % 2 = 1) : (wRow bs k)[k / 2]? = some (256 * (bs[k - 1].toNat : Int)) := by
  have e := wordsL_even bs (k - 1) (by omega) (by omega)
  rw [show k - 1 + 1 = k by omega] at e
  rw [wRow, e, List.append_assoc, List.getElem?_append_right (by rw [wordsL_length, List.length_take]; omega), wordsL_length, List.length_take, show k / 2 - (min (k - 1) bs.length + 1) / 2 = 0 by omega]
  rfl
theorem wRow_odd (bs : List UInt8) (k : Nat) (h : k < bs.length) (he : k % 2 = 1) :
    (intsOf (wRow bs k)).set (k / 2) (.int .i64 ((bs[k - 1].toNat : Int) * 256 + bs[k].toNat)) = intsOf (wRow bs (k + 1)) := by
  have e := wordsL_even bs (k - 1) (by omega) (by omega)
  have e2 := wordsL_odd bs (k - 1) (by omega) (by omega)
  have e3 : bs[k - 1 + 1]'(by omega) = bs[k] := by congr 1; omega
  rw [show k - 1 + 1 = k by omega] at e
  rw [e3, show k - 1 + 2 = k + 1 by omega] at e2
  rw [wRow, wRow, e, e2, show (k + 1 + 1) / 2 = (k + 1) / 2 by omega, List.append_assoc, List.singleton_append, int_fill _ _ _ _ (k / 2) (by rw [wordsL_length, List.length_take]; omega), Int.mul_comm]

set_option maxRecDepth 100000 in
set_option maxHeartbeats 1000000 in
theorem wordsOfC (A : Option Addr) (c : Nat) (bs : List UInt8) (w : World) (hr : RB w w.heap.size A bs) (hn : bs.length ≤ 1048576) :
    Calls Try.prog 129 #[.slice A bs.length c] w fun e w' => e = .returned (.slice (some ⟨w.heap.size, 0, none⟩) ((bs.length + 1) / 2) ((bs.length + 1) / 2)) ∧
      w'.ownsRow w.heap.size 3 1 (.slice (some ⟨w.heap.size, 0, none⟩) ((bs.length + 1) / 2) ((bs.length + 1) / 2)) ((bs.length + 1) / 2) (intsOf (wordsL bs)) ∧ Below w.heap.size w w' := by
  obtain ⟨i0, hi0, hz0, hz1, hz2⟩ := info_parts info_int
  go_enter Try.func129, Try.ntmps129
  go_wp2_with (at_make; refine wpList_make_full _ rfl _ _ 43 rfl w.heap.size 3 i0 (.int .i64 0) 1 Try.underlying43 hi0 hz0 hz1 _ _ _ _ ((bs.length + 1) / 2) rfl rfl (by omega) (by omega) (by rw [hz2]; omega) (by unfold maxLen; omega) (Nat.le_refl _) ?_; intro w1 hown hgrow)
  have hown0 : w1.ownsRow w.heap.size 3 1 (.slice (some ⟨w.heap.size, 0, none⟩) ((bs.length + 1) / 2) ((bs.length + 1) / 2)) ((bs.length + 1) / 2) (intsOf (wRow bs 0)) := by
    have e : (madeCells (Value.int IntKind.i64 0).cells ((bs.length + 1) / 2 * 1)).toList = intsOf (wRow bs 0) := by
      rw [wRow_zero]
      have := toList_madeCells_one (.int .i64 0) ((bs.length + 1) / 2)
      simpa [Value.cells, intsOf] using this
    rw [← e]; exact hown
  have hb1 : Below w.heap.size w w1 := (Below.refl _ _).grown hgrow (Nat.le_refl _) (by simp)
  clear hown hgrow
  go_loopw [13] (fun i wr => ∃ k : Nat, k ≤ bs.length ∧ i = .int .i64 k ∧ wr.ownsRow w.heap.size 3 1 (.slice (some ⟨w.heap.size, 0, none⟩) ((bs.length + 1) / 2) ((bs.length + 1) / 2)) ((bs.length + 1) / 2) (intsOf (wRow bs k)) ∧ Below w.heap.size w wr) (fun i _ => bs.length - (intOf i).toNat)
  case atStart => exact ⟨0, Nat.zero_le _, rfl, hown0, hb1⟩
  case round =>
    obtain ⟨k, hk, rfl, ho, hb⟩ := hrel
    clear hown0 hb1
    by_cases hlt : k < bs.length
    · obtain ⟨g, o, rfl, hg, hc0⟩ := hr.at_ hlt
      have hc : wr.cell? ⟨g, o + k, none⟩ = some (.int .u8 (bs[k].toNat : Int)) := (hb.cell (p := ⟨g, o + k, none⟩) hg).trans hc0
      have hb8 : bs[k].toNat < 256 := UInt8.toNat_lt _
      have hi2 : k / 2 < (bs.length + 1) / 2 := by omega
      have hfz := ho.frozenAt (k / 2)
      by_cases he : k % 2 = 0
      · have het : ((k : Int) % 2 == 0) = true := by simp; omega
        obtain ⟨u, hu⟩ : ∃ u, wr.cell? ⟨w.heap.size, k / 2, none⟩ = some u := by
          rw [ho.cellAt (k / 2) (by omega)]
          exact ⟨_, List.getElem?_eq_getElem (by rw [intsOf_length, wRow_length bs k hk]; omega)⟩
        have R := ho.stored (k / 2) (.int .i64 ((bs[k].toNat : Int) * 256))
        rw [wRow_even bs k hlt he] at R
        have R1 := Lib.hid R.1
        have R2 := Lib.hid (hb.setCell (p := ⟨w.heap.size, k / 2, none⟩) (Nat.le_refl _) (.int .i64 ((bs[k].toNat : Int) * 256)))
        clear R ho hc0 hr hb he
        go_wp2
        go_roundw
        case rel => exact ⟨k + 1, by omega, by go_num, R1.out, R2.out⟩
        case measure => simp [intOf]; omega
      · have hef : ((k : Int) % 2 == 0) = false := by simp; omega
        have hb7 : (bs[k - 1]'(by omega)).toNat < 256 := UInt8.toNat_lt _
        have hcell : wr.cell? ⟨w.heap.size, k / 2, none⟩ = some (.int .i64 ((bs[k - 1].toNat : Int) * 256)) := by
          rw [ho.cellAt (k / 2) (by omega), intsOf_get _ _ _ (wRow_get bs k hlt (by omega)), Int.mul_comm]
        have hor := or_byte (bs[k - 1]'(by omega)).toNat bs[k].toNat (by omega) hb8
        have R := ho.stored (k / 2) (.int .i64 ((bs[k - 1].toNat : Int) * 256 + bs[k].toNat))
        rw [wRow_odd bs k hlt (by omega)] at R
        have R1 := Lib.hid R.1
        have R2 := Lib.hid (hb.setCell (p := ⟨w.heap.size, k / 2, none⟩) (Nat.le_refl _) (.int .i64 ((bs[k - 1].toNat : Int) * 256 + bs[k].toNat)))
        clear R ho hc0 hr hb he
        go_wp2
        go_roundw
        case rel => exact ⟨k + 1, by omega, by go_num, R1.out, R2.out⟩
        case measure => simp [intOf]; omega
    · obtain rfl : k = bs.length := by omega
      rw [wRow_full] at ho
      have Ho := Lib.hid ho
      clear ho
      go_wp2
      go_ret
      exact ⟨rfl, Ho.out, hb⟩

set_option maxHeartbeats 400000 in
theorem implOnes (A : Option Addr) (n c : Nat) (bs : List UInt8) (w : World) (hr : RB w w.heap.size A bs) (hl : bs.length = n) (hn : n ≤ 1048576) :
    Calls Try.prog 88 #[.slice A n c] w fun e w' => e = .returned (.int .i64 (onesSum bs)) ∧ Below w.heap.size w w' := by
  subst hl
  by_cases h : 2000 < bs.length
  · have H := Lib.hid (show onesSum bs = -1 by rw [onesSum, if_pos h])
    go_enter Try.func88, Try.ntmps88
    go_wp2
    go_ret
    exact ⟨ret_int H.out.symm, Below.refl _ _⟩
  · have H := Lib.hid (show onesSum bs = folded (wordsL bs) by rw [onesSum, if_neg h, folded_yes (wordsL_word bs)])
    have hl := wordsL_length bs
    go_enter Try.func88, Try.ntmps88
    go_wp2_with fail
    refine (wordsOfC A c bs w hr hn).mono ?_
    rintro e w1 ⟨rfl, o1, b1⟩
    go_wp2_with fail
    refine (foldedC _ _ _ (wordsL bs) w1 (RV.of_own o1) hl (by omega)).mono ?_
    rintro e w2 ⟨rfl, rfl⟩
    go_wp2
    go_ret
    exact ⟨ret_int H.out.symm, b1⟩







end Go.Proofs.Ytkmijefheejcjaa
