/-
  A region that draws its order, with a chain of operations in forced order: what an operation left in its slot may change from one link of the chain to the next. Plain: any program. An IPv4 packet is read by the program. An IPv4 packet is read by the program: where it is read.
-/
import Derived.Test.YtekdfffjlcikeaaRegChain
import Derived.Test.YtekdfffjlcikeaaKuA
import Derived.Test.YtekdfffjlcikeaaFourBytes
namespace Go.Proofs.Ytekdfffjlcikeaa
open Go.RowKit

section
variable {P : Program} {ops : Array Oper} {Q : Exit → Act → World → Prop}

/-- What stands while the region runs. -/
structure KeptT (ops : Array Oper) (Γ : Nat → Nat → World → Value → Prop) (ch : List Nat) (I : Nat → World → Prop) (n : Nat) (a0 : Act) (listed : Array Bool) (a : Act) (w : World) : Prop where
  size : listed.size = ops.size
  len : a.tmps.size = n
  defers : a.defers = a0.defers
  keep : ∀ t, (∀ (j : Nat) o, ops[j]? = some o → o.dst ≠ some t) → a.tmps.getD t undef = a0.tmps.getD t undef
  inv : ∃ m, (∀ (i j : Nat), ch[i]? = some j → (listed.getD j false = true ↔ i < m)) ∧ m ≤ ch.length ∧ I m w ∧ (∀ (j : Nat) o d, ops[j]? = some o → o.dst = some d → listed.getD j false = true → Γ j m w (a.tmps.getD d undef))

theorem wpAny_stage2 {Γ : Nat → Nat → World → Value → Prop} {out ch : List Nat} {I : Nat → World → Prop} {n : Nat} {a0 : Act} (hf : formB ops n out = true) (hch : chainB ops ch = true)
    (hop : ∀ (j : Nat) o, ops[j]? = some o → ∀ m a w K, (∀ t ∈ out, a.tmps.getD t undef = a0.tmps.getD t undef) → (∀ p ∈ needOf ops j, Γ p.1 m w (a.tmps.getD p.2 undef)) → (∀ i, ch[i]? = some j → i = m) → I m w →
      (∀ v w', Γ j (nextOf ch j m) w' v → (∀ i oi d, i ≠ j → ops[i]? = some oi → oi.dst = some d → Γ i m w (a.tmps.getD d undef) → Γ i (nextOf ch j m) w' (a.tmps.getD d undef)) → I (nextOf ch j m) w' → K (a.put o.dst v) w') → o.wp P a w K Q)
    (hend : ∀ a w, a.tmps.size = n → a.defers = a0.defers → (∀ t ∈ out, a.tmps.getD t undef = a0.tmps.getD t undef) → (∀ t, (∀ (j : Nat) o, ops[j]? = some o → o.dst ≠ some t) → a.tmps.getD t undef = a0.tmps.getD t undef) →
      (∀ (j : Nat) o d, ops[j]? = some o → o.dst = some d → Γ j ch.length w (a.tmps.getD d undef)) → I ch.length w → Q .normal a w) :
    ∀ (fuel : Nat) (listed : Array Bool) (a : Act) (w : World), KeptT ops Γ ch I n a0 listed a w → ops.size ≤ up listed + fuel → wpAny P .any ops Q fuel listed a w := by
  have fin : ∀ (listed : Array Bool) (a : Act) (w : World), KeptT ops Γ ch I n a0 listed a w → up listed = ops.size → Q .normal a w := by
    intro listed a w hk hu
    have hall : ∀ j, j < ops.size → listed.getD j false = true := fun j hj => up_all (by rw [hu, hk.size]) (by rw [hk.size]; exact hj)
    obtain ⟨m, hm, hml, hI, hsl⟩ := hk.inv
    have hme : m = ch.length := by
      rcases Nat.lt_or_ge m ch.length with h | h
      · obtain ⟨o, ho, _⟩ := chainB_at hch (List.getElem?_eq_getElem h)
        have := (hm m _ (List.getElem?_eq_getElem h)).1 (hall _ (Array.getElem?_eq_some_iff.1 ho).1)
        omega
      · omega
    subst hme
    refine hend a w hk.len hk.defers (fun t ht => hk.keep t (fun j oj hj hdj => ((formB_at hf hj).2.2 t hdj).2.1 ht)) hk.keep (fun j o d ho hd => hsl j o d ho hd ?_) hI
    exact hall j (Array.getElem?_eq_some_iff.1 ho).1
  intro fuel
  induction fuel with
  | zero =>
    intro listed a w hk hle
    have hu : up listed = ops.size := by have := up_le listed; have := hk.size; omega
    refine ⟨?_, fin listed a w hk hu⟩
    cases hr : Region.ready .any ops listed with
    | nil => rfl
    | cons i l =>
      have hm : i ∈ Region.ready .any ops listed := by rw [hr]; simp
      obtain ⟨h0, _⟩ := mem_ready.1 hm
      have := (up_set h0).1
      have h3 := up_le (listed.setIfInBounds i true)
      have h4 : (listed.setIfInBounds i true).size = listed.size := by simp
      have := hk.size
      omega
  | succ fuel ih =>
    intro listed a w hk hle
    refine ⟨fun hr => fin listed a w hk (some_ready hf hk.size hr), fun i hi => ?_⟩
    obtain ⟨h0, o, ho, hall⟩ := mem_ready.1 hi
    obtain ⟨hu, hil⟩ := up_set h0
    obtain ⟨hlt, hg, hd⟩ := formB_at hf ho
    obtain ⟨m, hm, hml, hI, hsl⟩ := hk.inv
    have hfalse : listed.getD i false = false := by simpa [hil] using h0
    have hnow : ∀ q, ch[q]? = some i → q = m := by
      intro q hq
      have h1 : ¬ q < m := fun h => by rw [(hm q i hq).2 h] at hfalse; cases hfalse
      cases q with
      | zero => omega
      | succ q' =>
        obtain ⟨o', ho', hprev⟩ := chainB_at hch hq
        obtain rfl : o = o' := Option.some.inj (ho.symm.trans ho')
        obtain ⟨e, he, hb, hce⟩ := hprev q' rfl
        have := (hm q' e.on hce).1 (hall e he hb)
        omega
    unfold wpOp
    simp only [ho]
    rw [if_pos (by simp [Region.wanted, hg])]
    left
    refine hop i o ho m a w _ (fun t ht => hk.keep t (fun j oj hj hdj => ?_)) (fun p hp => ?_) hnow hI ?_
    · exact ((formB_at hf hj).2.2 t hdj).2.1 ht
    · obtain ⟨⟨e, he, hep, hb⟩, oj, hoj, hdj⟩ := needOf_spec ho hp
      exact hsl p.1 oj p.2 hoj hdj (by rw [← hep]; exact hall e he hb)
    · intro v w' hv hR hI'
      refine ih _ _ _ ⟨by simpa using hk.size, by rw [put_size]; exact hk.len, by rw [put_defers']; exact hk.defers, fun t ht => ?_, ⟨nextOf ch i m, ?_, ?_, hI', fun j oj d hj hdj hl => ?_⟩⟩ (by omega)
      · rw [put_other a v (ht i o ho)]
        exact hk.keep t ht
      · intro q j hq
        by_cases hji : j = i
        · subst hji
          have hqm := hnow q hq
          have hc : j ∈ ch := List.mem_of_getElem? hq
          rw [getD_set_own hil]
          simp [nextOf, hc, hqm]
        · rw [getD_set_ne (listed := listed) false (Ne.symm hji), hm q j hq]
          unfold nextOf
          split
          · rename_i hc
            obtain ⟨q', hq'⟩ := List.mem_iff_getElem?.1 (show i ∈ ch by simpa using hc)
            have h1 := hnow q' hq'
            have h2 : q ≠ m := fun e => hji (Option.some.inj ((e ▸ hq).symm.trans (h1 ▸ hq')))
            omega
          · exact Iff.rfl
      · unfold nextOf
        split
        · rename_i hc
          obtain ⟨q', hq'⟩ := List.mem_iff_getElem?.1 (show i ∈ ch by simpa using hc)
          have h1 := hnow q' hq'
          have := (List.getElem?_eq_some_iff.1 hq').1
          omega
        · exact hml
      · by_cases hji : j = i
        · subst hji
          obtain rfl : o = oj := Option.some.inj (ho.symm.trans hj)
          rw [hdj, put_own a v (hd d hdj).1 hk.len]
          exact hv
        · have hne : o.dst ≠ some d := fun e => hji ((hd d e).2.2 j oj hj hdj)
          rw [put_other a v hne]
          refine hR j oj d hji hj hdj (hsl j oj d hj hdj ?_)
          rw [← getD_set_ne (listed := listed) false (Ne.symm hji)]
          exact hl

theorem wp_region_stage2 {id : Nat} {a : Act} {w : World} (hmx : P.follows .mixedOrders = true) (Γ : Nat → Nat → World → Value → Prop) (out ch : List Nat) (I : Nat → World → Prop) (n : Nat) (hf : formB ops n out = true) (hch : chainB ops ch = true)
    (hn : a.tmps.size = n) (h0 : I 0 { w with drawn := w.drawn + 1 })
    (hop : ∀ (j : Nat) o, ops[j]? = some o → ∀ m a' w K, (∀ t ∈ out, a'.tmps.getD t undef = a.tmps.getD t undef) → (∀ p ∈ needOf ops j, Γ p.1 m w (a'.tmps.getD p.2 undef)) → (∀ i, ch[i]? = some j → i = m) → I m w →
      (∀ v w', Γ j (nextOf ch j m) w' v → (∀ i oi d, i ≠ j → ops[i]? = some oi → oi.dst = some d → Γ i m w (a'.tmps.getD d undef) → Γ i (nextOf ch j m) w' (a'.tmps.getD d undef)) → I (nextOf ch j m) w' → K (a'.put o.dst v) w') → o.wp P a' w K Q)
    (hend : ∀ a' w', a'.tmps.size = n → a'.defers = a.defers → (∀ t ∈ out, a'.tmps.getD t undef = a.tmps.getD t undef) → (∀ t, (∀ (j : Nat) o, ops[j]? = some o → o.dst ≠ some t) → a'.tmps.getD t undef = a.tmps.getD t undef) →
      (∀ (j : Nat) o d, ops[j]? = some o → o.dst = some d → Γ j ch.length w' (a'.tmps.getD d undef)) → I ch.length w' → Q .normal a' w') : (Code.region id ops true).wp P Q a w := by
  have hfl : ∀ j, (Array.replicate ops.size false).getD j false = false := by
    intro j
    simp [Array.getElem?_replicate]
    split <;> simp
  refine wp_region_any hmx (wpAny_stage2 (out := out) (ch := ch) (I := I) (Γ := Γ) (n := n) (a0 := a) hf hch hop hend ops.size _ a _ ⟨by simp, hn, rfl, fun _ _ => rfl, ⟨0, fun i j _ => ?_, Nat.zero_le _, h0, fun j o d _ _ hl => ?_⟩⟩ (by omega))
  · rw [hfl j]
    simp
  · rw [hfl j] at hl
    cases hl
end
end Go.Proofs.Ytekdfffjlcikeaa

namespace Go.Proofs.Ytekdfffjlcikeaa
open Go.RowKit

theorem K.resCell3 {fn : Func} {p u v : Tmp} {ty : TypeId} (h : fn.results = #[.cell p ty, .tmp u, .tmp v]) (tmps : Array Value) (P : Program) (w : World) (g : Nat) (cs : Array Value)
    (hp : tmps.getD p undef = .pointer (some ⟨g, 0, none⟩)) (hld : (loadVar ty ⟨g, 0, none⟩).run P w = .ok (.agg cs) w) :
    (results fn tmps).run P w = .ok (.tuple #[.agg cs, tmps.getD u undef, tmps.getD v undef]) w := by
  have hp' : tmps[p]?.getD undef = .pointer (some ⟨g, 0, none⟩) := by simpa using hp
  simp [results, h, hp', asAddr, hld]

section
variable {o : Oper} {a : Act} {w : World} {K : Act → World → Prop} {Q : Exit → Act → World → Prop}
theorem t_nil (t g : Nat) (ho : o.op = .nilCheck (.tmp t)) (ht : a.eval (.tmp t) = .pointer (some ⟨g, 0, none⟩)) (hK : K (a.put o.dst (.pointer (some ⟨g, 0, none⟩))) w) : o.wp Try.prog a w K Q := by
  unfold Oper.wp execOp
  simp only [ho, ht]
  go_simp
  exact hK
theorem t_fldR (t g : Nat) (ho : o.op = .fieldAddr 61 (.tmp t) 0) (ht : a.eval (.tmp t) = .pointer (some ⟨g, 0, none⟩)) (hK : K (a.put o.dst (.pointer (some ⟨g, 0, none⟩))) w) : o.wp Try.prog a w K Q := by
  unfold Oper.wp execOp
  simp only [ho, ht]
  go_simp
  exact hK
theorem t_left (t : Nat) (u : Value) (ts : Array TypeId) (ho : o.op = .call { callee := .value (.func 51), args := #[.tmp t], argTypes := ts }) (ht : a.eval (.tmp t) = u)
    (h : Calls Try.prog 51 #[u] w fun e w' => ∃ v, e = .returned v ∧ K (a.put o.dst v) w') : o.wp Try.prog a w K Q := by
  unfold Oper.wp execOp
  simp only [ho, resolve, List.map_toArray, List.map_cons, List.map_nil, ht, show ∀ f, a.eval (.func f) = .func (.func f) #[] #[] from fun _ => rfl]
  go_simp
  exact h.mono fun e w' ⟨u, he, hk⟩ => by subst he; exact hk
theorem t_take (t s : Nat) (u v : Value) (ts : Array TypeId) (ho : o.op = .call { callee := .value (.func 50), args := #[.tmp t, .tmp s], argTypes := ts }) (ht : a.eval (.tmp t) = u) (hs : a.eval (.tmp s) = v)
    (h : Calls Try.prog 50 #[u, v] w fun e w' => ∃ v, e = .returned v ∧ K (a.put o.dst v) w') : o.wp Try.prog a w K Q := by
  unfold Oper.wp execOp
  simp only [ho, resolve, List.map_toArray, List.map_cons, List.map_nil, ht, hs, show ∀ f, a.eval (.func f) = .func (.func f) #[] #[] from fun _ => rfl]
  go_simp
  exact h.mono fun e w' ⟨u, he, hk⟩ => by subst he; exact hk
theorem t_const (v : Value) (ho : o.op = .assign (.const v)) (hK : K (a.put o.dst v) w) : o.wp Try.prog a w K Q := by
  unfold Oper.wp execOp
  simp only [ho, show a.eval (.const v) = v from rfl]
  go_simp
  exact hK
end

set_option maxRecDepth 100000 in
set_option maxHeartbeats 1000000 in
theorem readI_long (A : Option Addr) (n c : Nat) (bs : List UInt8) (w : World) (hl : bs.length = n) (hs : n ≤ 1048576) (hn : 1600 < n) : Calls Try.prog 27 #[.slice A n c] w (FROut bs w) := by
  have H := Lib.hid (show frc bs = 1 by simp [frc, hl, hn])
  clear hl
  have z0 := Lib.hid (K.new w (.cells #[.int .i64 0, .int .i64 0, .int .i64 0, .int .i64 0, .int .i64 0, .int .i64 0, .int .i64 0, .int .i64 0, .int .i64 0, .int .i64 0, .int .i64 0, .int .i64 0, .int .i64 0, .int .i64 0, .int .i64 0, .int .i64 0, .int .i64 0, .slice none 0 0, .slice none 0 0] 31))
  go_enter Try.func27, Try.ntmps27
  go_wp2_with (with_reducible refine storeF rfl _ _ rfl w.heap.size rfl rfl z0.out ?_)
  (try simp only [Exit.inBlock, Exit.then])
  refine bodyPost_ret (v := .tuple #[.agg #[.int .i64 0, .int .i64 0, .int .i64 0, .int .i64 0, .int .i64 0, .int .i64 0, .int .i64 0, .int .i64 0, .int .i64 0, .int .i64 0, .int .i64 0, .int .i64 0, .int .i64 0, .int .i64 0, .int .i64 0, .int .i64 0, .int .i64 0, .slice none 0 0, .slice none 0 0], .slice none 0 0, .int .i64 1]) ?_ rfl (frOut_no H.out (by omega) (K.setRow_below (Joins.below_alloc1 w _) (Nat.le_refl _) _))
  exact K.resCell3 Try.results27 _ _ _ w.heap.size _ rfl (run_loadVar_row _ _ 31 31 _ (0, 0) _ (setRow_heap _ _ _ _ _ _ z0.out) Try.underlying31 rfl info_four)

set_option maxRecDepth 100000 in
set_option maxHeartbeats 1000000 in
theorem readI_short (A : Option Addr) (n c : Nat) (bs : List UInt8) (w : World) (hl : bs.length = n) (hn : n < 20) : Calls Try.prog 27 #[.slice A n c] w (FROut bs w) := by
  have H := Lib.hid (show frc bs = 2 by simp [frc, hl, hn, show ¬ 1600 < n by omega])
  clear hl
  have z0 := Lib.hid (K.new w (.cells #[.int .i64 0, .int .i64 0, .int .i64 0, .int .i64 0, .int .i64 0, .int .i64 0, .int .i64 0, .int .i64 0, .int .i64 0, .int .i64 0, .int .i64 0, .int .i64 0, .int .i64 0, .int .i64 0, .int .i64 0, .int .i64 0, .int .i64 0, .slice none 0 0, .slice none 0 0] 31))
  go_enter Try.func27, Try.ntmps27
  go_wp2_with (with_reducible refine storeF rfl _ _ rfl w.heap.size rfl rfl z0.out ?_)
  (try simp only [Exit.inBlock, Exit.then])
  refine bodyPost_ret (v := .tuple #[.agg #[.int .i64 0, .int .i64 0, .int .i64 0, .int .i64 0, .int .i64 0, .int .i64 0, .int .i64 0, .int .i64 0, .int .i64 0, .int .i64 0, .int .i64 0, .int .i64 0, .int .i64 0, .int .i64 0, .int .i64 0, .int .i64 0, .int .i64 0, .slice none 0 0, .slice none 0 0], .slice none 0 0, .int .i64 2]) ?_ rfl (frOut_no H.out (by omega) (K.setRow_below (Joins.below_alloc1 w _) (Nat.le_refl _) _))
  exact K.resCell3 Try.results27 _ _ _ w.heap.size _ rfl (run_loadVar_row _ _ 31 31 _ (0, 0) _ (setRow_heap _ _ _ _ _ _ z0.out) Try.underlying31 rfl info_four)

set_option maxRecDepth 100000 in
set_option maxHeartbeats 2000000 in
theorem readI_no (a : Addr) (n c : Nat) (bs : List UInt8) (w : World) (k : Int) (hk : ¬ k = 0) (hr : RB w w.heap.size (some a) bs) (hl : bs.length = n) (hs : n ≤ 1600) (hn : 20 ≤ n) (hc : n ≤ c) (hf : frc bs = k)
    (H : ∀ (v : World) (g : Nat), Rp v g (some a) n c bs 0 → Calls Try.prog 49 #[.pointer (some ⟨g, 0, none⟩)] v (FoNo k g v)) : Calls Try.prog 27 #[.slice (some a) n c] w (FROut bs w) := by
  have z0 := Lib.hid (K.old (K.new w (.cells #[.int .i64 0, .int .i64 0, .int .i64 0, .int .i64 0, .int .i64 0, .int .i64 0, .int .i64 0, .int .i64 0, .int .i64 0, .int .i64 0, .int .i64 0, .int .i64 0, .int .i64 0, .int .i64 0, .int .i64 0, .int .i64 0, .int .i64 0, .slice none 0 0, .slice none 0 0] 31)) (.cells #[.slice (some a) n c, .int .i64 0] 61))
  have r0 : Hid (Rp ((w.alloc (.cells #[.int .i64 0, .int .i64 0, .int .i64 0, .int .i64 0, .int .i64 0, .int .i64 0, .int .i64 0, .int .i64 0, .int .i64 0, .int .i64 0, .int .i64 0, .int .i64 0, .int .i64 0, .int .i64 0, .int .i64 0, .int .i64 0, .int .i64 0, .slice none 0 0, .slice none 0 0] 31)).alloc (.cells #[.slice (some a) n c, .int .i64 0] 61)) (w.heap.size + 1) (some a) n c bs 0) := by
    refine Lib.hid ⟨(by repeat (first | exact K.newAt (by first | rfl | (simp; done)) | refine K.oldAt (by first | (simp; done) | (simp; omega)) ?_)), ?_, hl, by omega, hc⟩
    exact (hr.below (Joins.below_alloc2 w _ _)).more (by omega)
  have HH := Lib.hid H
  have HF := Lib.hid hf
  have HK := Lib.hid hk
  clear hr H hf hl
  go_enter Try.func27, Try.ntmps27
  go_wp2_with fail
  refine Calls.mono (HH.out _ (w.heap.size + 1) r0.out) ?_
  rintro e w1 ⟨rfl, g1⟩
  have z1 := Lib.hid (K.kept g1 z0.out (fun k hk => by cases hk; omega))
  have B1 := Lib.hid (bgrown (Joins.below_alloc2 w _ _) g1 (fun k hk => by cases hk; omega))
  clear g1
  have z2 := Lib.hid (K.old z1.out (.cells #[.int .i64 0, .int .i64 0, .int .i64 0, .int .i64 0, .int .i64 0, .int .i64 0, .int .i64 0, .int .i64 0, .int .i64 0, .int .i64 0, .int .i64 0, .int .i64 0, .int .i64 0, .int .i64 0, .int .i64 0, .int .i64 0, .int .i64 0, .slice none 0 0, .slice none 0 0] 31))
  go_wp2_with (first | (with_reducible refine storeNewF rfl _ _ rfl rfl rfl ?_) | (with_reducible refine storeF rfl _ _ rfl w.heap.size rfl rfl z2.out ?_))
  (try simp only [Exit.inBlock, Exit.then])
  refine bodyPost_ret (v := .tuple #[.agg #[.int .i64 0, .int .i64 0, .int .i64 0, .int .i64 0, .int .i64 0, .int .i64 0, .int .i64 0, .int .i64 0, .int .i64 0, .int .i64 0, .int .i64 0, .int .i64 0, .int .i64 0, .int .i64 0, .int .i64 0, .int .i64 0, .int .i64 0, .slice none 0 0, .slice none 0 0], .slice none 0 0, .int .i64 k]) ?_ rfl (frOut_no HF.out HK.out (K.setRow_below (bthen B1.out (Joins.below_alloc1 w1 _)) (Nat.le_refl _) _))
  exact K.resCell3 Try.results27 _ _ _ w.heap.size _ rfl (run_loadVar_row _ _ 31 31 _ (0, 0) _ (setRow_heap _ _ _ _ _ _ z2.out) Try.underlying31 rfl info_four)
end Go.Proofs.Ytekdfffjlcikeaa

namespace Go.Proofs.Ytekdfffjlcikeaa
open Go.RowKit

/-- What the operations of the last region leave. -/
def GRd (x : Fh) (A8 D9 : Option Addr) (p c8 q d9 g rl base : Nat) (rs : List UInt8) (j : Nat) (w : World) (v : Value) : Prop :=
  if j = 0 then v = .agg #[.int .i64 x.dscp, .int .i64 x.ecn, .int .i64 x.id, .int .i64 x.flags, .int .i64 x.frag, .int .i64 x.ttl, .int .i64 x.proto, .int .i64 x.src.k, .int .i64 x.src.a, .int .i64 x.src.b, .int .i64 x.src.c, .int .i64 x.src.d, .int .i64 x.dst.k, .int .i64 x.dst.a, .int .i64 x.dst.b, .int .i64 x.dst.c, .int .i64 x.dst.d, .slice A8 p c8, .slice D9 q d9]
  else if j = 7 then v = .int .i64 (rl : Int)
  else if j = 8 ∨ j = 10 then ∃ E k, v = .slice E rl k ∧ w.ownsRow base 5 1 (.slice E rl k) rl (cellsOf rs)
  else if j = 11 then v = .int .i64 0
  else if j = 9 then True
  else v = .pointer (some ⟨g, 0, none⟩)
def ROwn (rl base : Nat) (rs : List UInt8) (w w' : World) : Prop := ∀ E k, w.ownsRow base 5 1 (.slice E rl k) rl (cellsOf rs) → w'.ownsRow base 5 1 (.slice E rl k) rl (cellsOf rs)
theorem gRd_on {x : Fh} {A8 D9 : Option Addr} {p c8 q d9 g rl base : Nat} {rs : List UInt8} (j : Nat) (w w' : World) (v : Value) (h : ROwn rl base rs w w') (hv : GRd x A8 D9 p c8 q d9 g rl base rs j w v) : GRd x A8 D9 p c8 q d9 g rl base rs j w' v := by
  unfold GRd at *
  split
  · rename_i h0; rw [if_pos h0] at hv; exact hv
  · rename_i h0
    rw [if_neg h0] at hv
    split
    · rename_i h1; rw [if_pos h1] at hv; exact hv
    · rename_i h1
      rw [if_neg h1] at hv
      split
      · rename_i h2
        rw [if_pos h2] at hv
        obtain ⟨E, k, e, o⟩ := hv
        exact ⟨E, k, e, h E k o⟩
      · rename_i h2
        rw [if_neg h2] at hv
        exact hv
/-- What stands while the last region runs: m links of its chain are done. -/
structure IRd (x : Fh) (A8 D9 : Option Addr) (p c8 q d9 : Nat) (os ds : List UInt8) (g b6 r t : Nat) (a : Addr) (n c : Nat) (bs : List UInt8) (W : World) (m : Nat) (w : World) : Prop where
  below : Below W.heap.size W w
  row : w.heap[b6]? = some (.cells #[.int .i64 x.dscp, .int .i64 x.ecn, .int .i64 x.id, .int .i64 x.flags, .int .i64 x.frag, .int .i64 x.ttl, .int .i64 x.proto, .int .i64 x.src.k, .int .i64 x.src.a, .int .i64 x.src.b, .int .i64 x.src.c, .int .i64 x.src.d, .int .i64 x.dst.k, .int .i64 x.dst.a, .int .i64 x.dst.b, .int .i64 x.dst.c, .int .i64 x.dst.d, .slice A8 p c8, .slice D9 q d9] 31 (0, 0))
  rd : m ≤ 1 → Rp w g (some a) n c bs t
  ownA : w.ownsRow (W.heap.size + 2) 5 1 (.slice A8 p c8) p (cellsOf os)
  ownD : w.ownsRow (W.heap.size + 2) 5 1 (.slice D9 q d9) q (cellsOf ds)
  res : m ≤ 2 → w.heap[r]? = some (.cells #[.int .i64 0, .int .i64 0, .int .i64 0, .int .i64 0, .int .i64 0, .int .i64 0, .int .i64 0, .int .i64 0, .int .i64 0, .int .i64 0, .int .i64 0, .int .i64 0, .int .i64 0, .int .i64 0, .int .i64 0, .int .i64 0, .int .i64 0, .slice none 0 0, .slice none 0 0] 31 (0, 0))
  done : 3 ≤ m → w.heap[r]? = some (.cells #[.int .i64 x.dscp, .int .i64 x.ecn, .int .i64 x.id, .int .i64 x.flags, .int .i64 x.frag, .int .i64 x.ttl, .int .i64 x.proto, .int .i64 x.src.k, .int .i64 x.src.a, .int .i64 x.src.b, .int .i64 x.src.c, .int .i64 x.src.d, .int .i64 x.dst.k, .int .i64 x.dst.a, .int .i64 x.dst.b, .int .i64 x.dst.c, .int .i64 x.dst.d, .slice A8 p c8, .slice D9 q d9] 31 (0, 0))

set_option maxRecDepth 100000 in
set_option maxHeartbeats 4000000 in
theorem readI_yes (a : Addr) (n c : Nat) (bs : List UInt8) (w : World) (hr : RB w w.heap.size (some a) bs) (hl : bs.length = n) (hs : n ≤ 1600) (hn : 20 ≤ n) (hc : n ≤ c) (hf : frc bs = 0)
    (x : Fh) (os ds rs : List UInt8) (p q t rl : Nat) (ex : fx0 bs = x) (eo : fo0 bs = os) (ed : fb0 bs = ds) (er : bs.drop (num bs 2 2) = rs) (lo : os.length = p) (ld : ds.length = q) (lr : rs.length = rl) (et : num bs 2 2 = t) (etn : t + rl = n)
    (H : ∀ (v : World) (g : Nat), Rp v g (some a) n c bs 0 → Calls Try.prog 49 #[.pointer (some ⟨g, 0, none⟩)] v (FoYes x os ds p q t g a n c bs v)) : Calls Try.prog 27 #[.slice (some a) n c] w (FROut bs w) := by
  have z0 := Lib.hid (K.old (K.new w (.cells #[.int .i64 0, .int .i64 0, .int .i64 0, .int .i64 0, .int .i64 0, .int .i64 0, .int .i64 0, .int .i64 0, .int .i64 0, .int .i64 0, .int .i64 0, .int .i64 0, .int .i64 0, .int .i64 0, .int .i64 0, .int .i64 0, .int .i64 0, .slice none 0 0, .slice none 0 0] 31)) (.cells #[.slice (some a) n c, .int .i64 0] 61))
  have r0 : Hid (Rp ((w.alloc (.cells #[.int .i64 0, .int .i64 0, .int .i64 0, .int .i64 0, .int .i64 0, .int .i64 0, .int .i64 0, .int .i64 0, .int .i64 0, .int .i64 0, .int .i64 0, .int .i64 0, .int .i64 0, .int .i64 0, .int .i64 0, .int .i64 0, .int .i64 0, .slice none 0 0, .slice none 0 0] 31)).alloc (.cells #[.slice (some a) n c, .int .i64 0] 61)) (w.heap.size + 1) (some a) n c bs 0) := by
    refine Lib.hid ⟨(by repeat (first | exact K.newAt (by first | rfl | (simp; done)) | refine K.oldAt (by first | (simp; done) | (simp; omega)) ?_)), ?_, hl, by omega, hc⟩
    exact (hr.below (Joins.below_alloc2 w _ _)).more (by omega)
  have HH := Lib.hid H
  have FIN := Lib.hid (fun (w' : World) (A D E : Option Addr) (c d g : Nat) oA oD oE h1 h2 h3 hb => frOut_yes (w := w) (w' := w') (A := A) (D := D) (E := E) (c := c) (d := d) (g := g) hf ex eo ed er lo ld lr oA oD oE h1 h2 h3 hb)
  have ER := Lib.hid (show (bs.drop t).take rl = rs by rw [← et, er]; exact List.take_of_length_le (by omega))
  have HT := Lib.hid etn
  clear hr H hf hl ex eo ed er lo ld lr et etn
  go_enter Try.func27, Try.ntmps27
  go_wp2_with fail
  refine Calls.mono (HH.out _ (w.heap.size + 1) r0.out) ?_
  rintro e w1 ⟨A8, c8, D9, d9, rfl, o1, p1, ap, r1, g1⟩
  have z1 := Lib.hid (K.kept g1 z0.out (fun k hk => by cases hk; omega))
  have B1 := Lib.hid (bgrown (Joins.below_alloc2 w _ _) g1 (fun k hk => by cases hk; omega))
  have O1 : Hid (w1.ownsRow (w.heap.size + 2) 5 1 (.slice A8 p c8) p (cellsOf os)) := Lib.hid (own_base o1 (by simp))
  have P1 : Hid (w1.ownsRow (w.heap.size + 2) 5 1 (.slice D9 q d9) q (cellsOf ds)) := Lib.hid (own_base p1 (by simp))
  have LA := Lib.hid o1.lt
  have LD := Lib.hid p1.lt
  have AP := Lib.hid ap
  have R1 := Lib.hid r1
  have lw := B1.out.size
  have lg := r1.lt
  clear g1 o1 p1 ap r1
  have I0 : Hid (IRd x A8 D9 p c8 q d9 os ds (w.heap.size + 1) w1.heap.size w.heap.size t a n c bs w 0 (w1.alloc (.cells #[.int .i64 x.dscp, .int .i64 x.ecn, .int .i64 x.id, .int .i64 x.flags, .int .i64 x.frag, .int .i64 x.ttl, .int .i64 x.proto, .int .i64 x.src.k, .int .i64 x.src.a, .int .i64 x.src.b, .int .i64 x.src.c, .int .i64 x.src.d, .int .i64 x.dst.k, .int .i64 x.dst.a, .int .i64 x.dst.b, .int .i64 x.dst.c, .int .i64 x.dst.d, .slice A8 p c8, .slice D9 q d9] 31)).drew) := Lib.hid
    ⟨⟨B1.out.os, B1.out.tape, B1.out.output, by have := B1.out.size; show _ ≤ (w1.alloc _).heap.size; simp; omega, fun k hk => (Below.heap_alloc w1 _ k (by omega)).trans (B1.out.block k hk)⟩, K.new w1 _, fun _ => (R1.out.below (Joins.below_alloc1 w1 _)).drewN 1, O1.out.alloc _, P1.out.alloc _, fun _ => K.old z1.out _, fun h => by omega⟩
  go_wp2_with (with_reducible refine storeNewF rfl _ _ rfl rfl rfl ?_)
  refine wp_region_chain (by kernel_rfl) (GRd x A8 D9 p c8 q d9 (w.heap.size + 1) rl (w1.heap.size + 1) rs) [2, 5, 6] [7, 8, 9, 10, 11] (IRd x A8 D9 p c8 q d9 os ds (w.heap.size + 1) w1.heap.size w.heap.size t a n c bs w) (ROwn rl (w1.heap.size + 1) rs) 38 (by kernel_rfl) (by kernel_rfl) rfl I0.out (fun j v v' u hb hv => gRd_on j v v' u hb hv) ?_ ?_
  · intro j o ho m a' v K' hx hnd hm hI hK
    have idR : ROwn rl (w1.heap.size + 1) rs v v := fun _ _ h => h
    match j, ho with
    | 0, ho =>
      obtain rfl := Option.some.inj ho
      exact wp_load_row 31 _ rfl w1.heap.size (out_of hx 6 (by simp) rfl) _ _ (0, 0) _ hI.row Try.underlying31 rfl info_four (hK _ _ rfl idR hI)
    | 1, ho =>
      obtain rfl := Option.some.inj ho
      exact s_move 5 _ rfl (out_of hx 5 (by simp) rfl) (hK _ _ rfl idR hI)
    | 2, ho =>
      obtain rfl := Option.some.inj ho
      have h1 : a'.eval (.tmp 30) = .pointer (some ⟨w.heap.size + 1, 0, none⟩) := (need_of (Γ := GRd x A8 D9 p c8 q d9 (w.heap.size + 1) rl (w1.heap.size + 1) rs) (w := v) hnd 1 30 (by kernel_rfl) :)
      exact t_nil _ _ rfl h1 (hK _ _ rfl idR hI)
    | 3, ho =>
      obtain rfl := Option.some.inj ho
      have h1 : a'.eval (.tmp 31) = .pointer (some ⟨w.heap.size + 1, 0, none⟩) := (need_of (Γ := GRd x A8 D9 p c8 q d9 (w.heap.size + 1) rl (w1.heap.size + 1) rs) (w := v) hnd 2 31 (by kernel_rfl) :)
      exact t_fldR _ _ rfl h1 (hK _ _ rfl idR hI)
    | 4, ho =>
      obtain rfl := Option.some.inj ho
      exact s_move 5 _ rfl (out_of hx 5 (by simp) rfl) (hK _ _ rfl idR hI)
    | 5, ho =>
      obtain rfl := Option.some.inj ho
      have h1 : a'.eval (.tmp 33) = .pointer (some ⟨w.heap.size + 1, 0, none⟩) := (need_of (Γ := GRd x A8 D9 p c8 q d9 (w.heap.size + 1) rl (w1.heap.size + 1) rs) (w := v) hnd 4 33 (by kernel_rfl) :)
      exact t_nil _ _ rfl h1 (hK _ _ rfl idR hI)
    | 6, ho =>
      obtain rfl := Option.some.inj ho
      have h1 : a'.eval (.tmp 34) = .pointer (some ⟨w.heap.size + 1, 0, none⟩) := (need_of (Γ := GRd x A8 D9 p c8 q d9 (w.heap.size + 1) rl (w1.heap.size + 1) rs) (w := v) hnd 5 34 (by kernel_rfl) :)
      exact t_fldR _ _ rfl h1 (hK _ _ rfl idR hI)
    | 7, ho =>
      obtain rfl := Option.some.inj ho
      have h1 : a'.eval (.tmp 35) = .pointer (some ⟨w.heap.size + 1, 0, none⟩) := (need_of (Γ := GRd x A8 D9 p c8 q d9 (w.heap.size + 1) rl (w1.heap.size + 1) rs) (w := v) hnd 6 35 (by kernel_rfl) :)
      obtain rfl : 0 = m := hm 0 rfl
      refine t_left _ _ _ rfl h1 ((leftP v (w.heap.size + 1) (some a) n c bs t rl (hI.rd (by omega)) HT.out).mono ?_)
      rintro e' v' ⟨rfl, b⟩
      exact ⟨_, rfl, hK _ _ rfl (fun _ _ h => own_below h b) ⟨bthen hI.below b, K.below b hI.row, fun _ => (hI.rd (by omega)).below b, own_below hI.ownA b, own_below hI.ownD b, fun _ => K.below b (hI.res (by omega)), fun h => absurd h (by decide)⟩⟩
    | 8, ho =>
      obtain rfl := Option.some.inj ho
      have h1 : a'.eval (.tmp 32) = .pointer (some ⟨w.heap.size + 1, 0, none⟩) := (need_of (Γ := GRd x A8 D9 p c8 q d9 (w.heap.size + 1) rl (w1.heap.size + 1) rs) (w := v) hnd 3 32 (by kernel_rfl) :)
      have h2 : a'.eval (.tmp 36) = .int .i64 (rl : Int) := (need_of (Γ := GRd x A8 D9 p c8 q d9 (w.heap.size + 1) rl (w1.heap.size + 1) rs) (w := v) hnd 7 36 (by kernel_rfl) :)
      obtain rfl : 1 = m := hm 1 rfl
      have lv := K.lt hI.row
      refine t_take _ _ _ _ _ rfl h1 h2 ((takeP v (w.heap.size + 1) a n c bs t rl (hI.rd (by omega)) (by have := HT.out; omega)).mono ?_)
      rintro e' v' ⟨E, k, rfl, o8, r8, g8⟩
      rw [ER.out] at o8
      exact ⟨_, rfl, hK _ _ ⟨E, k, rfl, own_base o8 lv⟩ (fun _ _ h => own_grown h g8 (fun k hk e => by have := (h.lt k hk).1; injection e with e; omega)) ⟨bgrown hI.below g8 (fun k hk => by cases hk; omega), K.kept g8 hI.row (fun k hk => by cases hk; omega), fun h => absurd h (by decide), own_grown hI.ownA g8 (fun k hk e => by have := (hI.ownA.lt k hk).1; injection e with e; omega), own_grown hI.ownD g8 (fun k hk e => by have := (hI.ownD.lt k hk).1; injection e with e; omega), fun _ => K.kept g8 (hI.res (by omega)) (fun k hk => by cases hk; omega), fun h => absurd h (by decide)⟩⟩
    | 9, ho =>
      obtain rfl := Option.some.inj ho
      have h1 : a'.eval (.tmp 29) = .agg #[.int .i64 x.dscp, .int .i64 x.ecn, .int .i64 x.id, .int .i64 x.flags, .int .i64 x.frag, .int .i64 x.ttl, .int .i64 x.proto, .int .i64 x.src.k, .int .i64 x.src.a, .int .i64 x.src.b, .int .i64 x.src.c, .int .i64 x.src.d, .int .i64 x.dst.k, .int .i64 x.dst.a, .int .i64 x.dst.b, .int .i64 x.dst.c, .int .i64 x.dst.d, .slice A8 p c8, .slice D9 q d9] := (need_of (Γ := GRd x A8 D9 p c8 q d9 (w.heap.size + 1) rl (w1.heap.size + 1) rs) (w := v) hnd 0 29 (by kernel_rfl) :)
      obtain rfl : 2 = m := hm 2 rfl
      refine wp_store_row 31 _ _ rfl w.heap.size _ (out_of hx 2 (by simp) rfl) h1 _ _ (hI.res (by omega)) info_four rfl (by simp [Value.oneCell']) (hK _ _ trivial (fun _ _ h => K.setRow_own _ h (by omega)) ⟨K.setRow_below hI.below (Nat.le_refl _) _, by rw [setRow_other _ _ _ _ (by omega)]; exact hI.row, fun h => absurd h (by decide), K.setRow_own _ hI.ownA (by omega), K.setRow_own _ hI.ownD (by omega), fun h => absurd h (by decide), fun _ => setRow_heap _ _ _ _ _ _ (hI.res (by omega))⟩)
    | 10, ho =>
      obtain rfl := Option.some.inj ho
      obtain ⟨E, k, h1, h2⟩ : ∃ E k, a'.eval (.tmp 37) = .slice E rl k ∧ v.ownsRow (w1.heap.size + 1) 5 1 (.slice E rl k) rl (cellsOf rs) := (need_of (Γ := GRd x A8 D9 p c8 q d9 (w.heap.size + 1) rl (w1.heap.size + 1) rs) (w := v) hnd 8 37 (by kernel_rfl) :)
      obtain rfl : 3 = m := hm 3 rfl
      exact t_assign _ _ rfl h1 (hK _ _ ⟨E, k, rfl, h2⟩ idR ⟨hI.below, hI.row, fun h => absurd h (by decide), hI.ownA, hI.ownD, fun h => absurd h (by decide), fun _ => hI.done (by omega)⟩)
    | 11, ho =>
      obtain rfl := Option.some.inj ho
      obtain rfl : 4 = m := hm 4 rfl
      exact t_const _ rfl (hK _ _ rfl idR ⟨hI.below, hI.row, fun h => absurd h (by decide), hI.ownA, hI.ownD, fun h => absurd h (by decide), fun _ => hI.done (by omega)⟩)
    | j + 12, ho => simp at ho
  · intro a' w' hsz hdf hout hrest hG hI
    have g2 : a'.tmps.getD 2 undef = .pointer (some ⟨w.heap.size, 0, none⟩) := hout 2 (by simp)
    obtain ⟨E, k, g3, oE⟩ : ∃ E k, a'.tmps.getD 3 undef = .slice E rl k ∧ w'.ownsRow (w1.heap.size + 1) 5 1 (.slice E rl k) rl (cellsOf rs) := hG 10 _ 3 rfl rfl
    have g4 : a'.tmps.getD 4 undef = .int .i64 0 := hG 11 _ 4 rfl rfl
    have D0 := Lib.hid (And.intro hdf (And.intro g2 (And.intro g3 g4)))
    have HI := Lib.hid (And.intro hI oE)
    clear hout hrest hG oE hsz hdf g2 g3 g4 hI
    go_wp2
    (try simp only [Exit.inBlock, Exit.then])
    obtain ⟨hI, oE⟩ := HI.out
    refine bodyPost_ret (v := .tuple #[.agg #[.int .i64 x.dscp, .int .i64 x.ecn, .int .i64 x.id, .int .i64 x.flags, .int .i64 x.frag, .int .i64 x.ttl, .int .i64 x.proto, .int .i64 x.src.k, .int .i64 x.src.a, .int .i64 x.src.b, .int .i64 x.src.c, .int .i64 x.src.d, .int .i64 x.dst.k, .int .i64 x.dst.a, .int .i64 x.dst.b, .int .i64 x.dst.c, .int .i64 x.dst.d, .slice A8 p c8, .slice D9 q d9], .slice E rl k, .int .i64 0]) ?_ D0.out.1 (FIN.out _ _ _ _ _ _ _ (own_base hI.ownA (by omega)) (own_base hI.ownD (by omega)) (own_base oE (by omega)) AP.out (fun k h1 h2 => by have := LA.out k h1; have := (oE.lt k h2).1; omega) (fun k h1 h2 => by have := LD.out k h1; have := (oE.lt k h2).1; omega) hI.below)
    rw [K.resCell3 Try.results27 _ _ _ w.heap.size _ D0.out.2.1 (run_loadVar_row _ _ 31 31 _ (0, 0) _ (hI.done (by decide)) Try.underlying31 rfl info_four), D0.out.2.2.1, D0.out.2.2.2]

theorem implFourRead (A : Option Addr) (n c : Nat) (bs : List UInt8) (w : World) (hr : RB w w.heap.size A bs) (hl : bs.length = n) (hs : n ≤ 1048576) (hc : n ≤ c) : Calls Try.prog 27 #[.slice A n c] w (FROut bs w) := by
  by_cases h1 : 1600 < n
  · exact readI_long A n c bs w hl hs h1
  · by_cases h2 : n < 20
    · exact readI_short A n c bs w hl h2
    · obtain ⟨gg, oo, rfl, _, _⟩ := hr.at_ (k := 0) (by omega)
      have hb0 := num_lt1 bs 0
      have frc1 : frc bs = if num bs 0 1 / 16 ≠ 4 then 3 else if fHead bs < 20 ∨ bs.length < fHead bs then 4 else if num bs 2 2 < fHead bs ∨ 1500 < num bs 2 2 ∨ bs.length < num bs 2 2 then 5 else if (num bs 10 2 : Int) ≠ (fx0 bs).sum (fo0 bs) (num bs 2 2 - fHead bs) then 6 else 0 := by
        unfold frc
        rw [if_neg (by omega), if_neg (by omega)]
      by_cases h3 : num bs 0 1 / 16 = 4
      · rw [if_neg (by omega)] at frc1
        by_cases h4 : fHead bs < 20 ∨ bs.length < fHead bs
        · rw [if_pos h4] at frc1
          exact readI_no _ n c bs w 4 (by omega) hr hl (by omega) (by omega) hc frc1 (fun v g h => fourOf_4 v g _ n c bs _ h (by omega) rfl (by omega) _ rfl (by unfold fHead at h4; omega))
        · rw [if_neg h4] at frc1
          by_cases h5 : num bs 2 2 < fHead bs ∨ 1500 < num bs 2 2 ∨ bs.length < num bs 2 2
          · rw [if_pos h5] at frc1
            exact readI_no _ n c bs w 5 (by omega) hr hl (by omega) (by omega) hc frc1 (fun v g h => fourOf_5 v g _ n c bs _ h (by omega) rfl (by omega) (fHead bs) rfl (by omega) _ _ rfl rfl (by omega))
          · rw [if_neg h5] at frc1
            have l1 : (fo0 bs).length = fHead bs - 20 := by unfold fo0; simp; omega
            have l2 : (fb0 bs).length = num bs 2 2 - fHead bs := by unfold fb0; simp; omega
            by_cases h6 : (num bs 10 2 : Int) = (fx0 bs).sum (fo0 bs) (num bs 2 2 - fHead bs)
            · rw [if_neg (by simpa using h6)] at frc1
              exact readI_yes _ n c bs w hr hl (by omega) (by omega) hc frc1 (fx0 bs) (fo0 bs) (fb0 bs) (bs.drop (num bs 2 2)) (fHead bs - 20) (num bs 2 2 - fHead bs) (num bs 2 2) (n - num bs 2 2) rfl rfl rfl rfl l1 l2 (by simp; omega) rfl (by omega)
                (fun v g h => fourOf_0 v g _ n c bs _ h (by omega) rfl (by omega) (fHead bs) rfl (by omega) _ _ rfl rfl (by omega) _ _ _ _ _ _ _ rfl rfl rfl rfl rfl rfl rfl _ _ (by omega) (by omega) (fo0 bs) (fb0 bs) rfl rfl h6)
            · rw [if_pos h6] at frc1
              exact readI_no _ n c bs w 6 (by omega) hr hl (by omega) (by omega) hc frc1 (fun v g h => fourOf_6 v g _ n c bs _ h (by omega) rfl (by omega) (fHead bs) rfl (by omega) _ _ rfl rfl (by omega) _ _ _ _ _ _ _ rfl rfl rfl rfl rfl rfl rfl _ _ (by omega) (by omega) (fo0 bs) (fb0 bs) rfl rfl h6)
      · rw [if_pos h3] at frc1
        exact readI_no _ n c bs w 3 (by omega) hr hl (by omega) (by omega) hc frc1 (fun v g h => fourOf_3 v g _ n c bs _ h (by omega) rfl (by omega))
end Go.Proofs.Ytekdfffjlcikeaa
