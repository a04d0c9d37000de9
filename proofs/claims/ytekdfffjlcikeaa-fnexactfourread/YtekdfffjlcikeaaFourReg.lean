/-
  The region in which the laws compare a packet with a new copy: it draws its order.
-/
import Derived.Test.YtekdfffjlcikeaaFour2
import Derived.Test.YtekdfffjlcikeaaFour3
import Derived.Test.YtekdfffjlcikeaaRegSteps
import Derived.Deep.WholeRow
namespace Go.Proofs.Ytekdfffjlcikeaa
open Go.RowKit

/-- A packet is stored into a variable that was just made. -/
theorem storeNewF {ops : Array Oper} {rest : List Oper} {o : Oper} {a : Act} {w : World} {Q : Exit → Act → World → Prop} (hgd : o.guard = none) (x y : Operand) (ho : o.op = .store 31 x y) {n0 n1 n2 n3 n4 n5 n6 n7 n8 n9 n10 n11 n12 n13 n14 n15 n16 : Int} {A D : Option Addr} {l c m d : Nat} (hx : a.eval x = .pointer (some ⟨w.heap.size, 0, none⟩)) (hy : a.eval y = .agg #[.int .i64 n0, .int .i64 n1, .int .i64 n2, .int .i64 n3, .int .i64 n4, .int .i64 n5, .int .i64 n6, .int .i64 n7, .int .i64 n8, .int .i64 n9, .int .i64 n10, .int .i64 n11, .int .i64 n12, .int .i64 n13, .int .i64 n14, .int .i64 n15, .int .i64 n16, .slice A l c, .slice D m d])
    (h : wpList Try.prog ops Q rest (a.put o.dst undef) (w.alloc (.cells #[.int .i64 n0, .int .i64 n1, .int .i64 n2, .int .i64 n3, .int .i64 n4, .int .i64 n5, .int .i64 n6, .int .i64 n7, .int .i64 n8, .int .i64 n9, .int .i64 n10, .int .i64 n11, .int .i64 n12, .int .i64 n13, .int .i64 n14, .int .i64 n15, .int .i64 n16, .slice A l c, .slice D m d] 31))) : wpList Try.prog ops Q (o :: rest) a (w.alloc (.cells #[.int .i64 0, .int .i64 0, .int .i64 0, .int .i64 0, .int .i64 0, .int .i64 0, .int .i64 0, .int .i64 0, .int .i64 0, .int .i64 0, .int .i64 0, .int .i64 0, .int .i64 0, .int .i64 0, .int .i64 0, .int .i64 0, .int .i64 0, .slice none 0 0, .slice none 0 0] 31)) := by
  refine storeF hgd x y ho w.heap.size hx hy (K.new w _) ?_
  rw [World.setRow_alloc_new]
  exact h

theorem getD_set (l : Array Value) (j i : Nat) (v : Value) (hj : j < l.size) : (l.setIfInBounds j v).getD i undef = if i = j then v else l.getD i undef := by
  by_cases h : i = j
  · subst h
    simp [hj]
  · rw [if_neg h]
    simp only [Array.getD_eq_getD_getElem?, Array.getElem?_setIfInBounds, Ne.symm h, if_false]
theorem ext_getD {l m : Array Value} (hs : l.size = m.size) (h : ∀ i, l.getD i undef = m.getD i undef) : l = m := by
  apply Array.ext hs
  intro i h1 h2
  have := h i
  simpa [h1, h2] using this

/-- A frame of which all slots but five are known is the old one with these five written. -/
theorem act_eq5 {a a' : Act} {n : Nat} (d : Nat) (hsz : a'.tmps.size = n) (hn : a.tmps.size = n) (hdf : a'.defers = a.defers) (hd : d + 5 ≤ n)
    (h : ∀ t, t ≠ d → t ≠ d + 1 → t ≠ d + 2 → t ≠ d + 3 → t ≠ d + 4 → a'.tmps.getD t undef = a.tmps.getD t undef) (v0 v1 v2 v3 v4 : Value) (g0 : a'.tmps.getD d undef = v0) (g1 : a'.tmps.getD (d + 1) undef = v1) (g2 : a'.tmps.getD (d + 2) undef = v2) (g3 : a'.tmps.getD (d + 3) undef = v3) (g4 : a'.tmps.getD (d + 4) undef = v4) :
    a' = ((((a.put (some d) v0).put (some (d + 1)) v1).put (some (d + 2)) v2).put (some (d + 3)) v3).put (some (d + 4)) v4 := by
  obtain ⟨tm, df⟩ := a'
  obtain ⟨tm0, df0⟩ := a
  simp only at hsz hn hdf h g0 g1 g2 g3 g4
  subst hdf
  show (⟨tm, df⟩ : Act) = ⟨((((tm0.setIfInBounds d v0).setIfInBounds (d + 1) v1).setIfInBounds (d + 2) v2).setIfInBounds (d + 3) v3).setIfInBounds (d + 4) v4, df⟩
  congr 1
  refine ext_getD (by simp only [Array.size_setIfInBounds]; omega) (fun i => ?_)
  rw [getD_set _ _ _ _ (by simp only [Array.size_setIfInBounds]; omega), getD_set _ _ _ _ (by simp only [Array.size_setIfInBounds]; omega), getD_set _ _ _ _ (by simp only [Array.size_setIfInBounds]; omega), getD_set _ _ _ _ (by simp only [Array.size_setIfInBounds]; omega), getD_set _ _ _ _ (by omega)]
  by_cases h4 : i = d + 4
  · rw [if_pos h4, h4, g4]
  · rw [if_neg h4]
    by_cases h3 : i = d + 3
    · rw [if_pos h3, h3, g3]
    · rw [if_neg h3]
      by_cases h2 : i = d + 2
      · rw [if_pos h2, h2, g2]
      · rw [if_neg h2]
        by_cases h1 : i = d + 1
        · rw [if_pos h1, h1, g1]
        · rw [if_neg h1]
          by_cases h0 : i = d
          · rw [if_pos h0, h0, g0]
          · rw [if_neg h0]
            exact h i h0 h1 h2 h3 h4

section
variable {o : Oper} {a : Act} {w : World} {K : Act → World → Prop} {Q : Exit → Act → World → Prop}
theorem s_call1 (t : Nat) (u : Value) (ts : Array TypeId) (ho : o.op = .call { callee := .value (.func 12), args := #[.tmp t], argTypes := ts }) (ht : a.eval (.tmp t) = u)
    (h : Calls Try.prog 12 #[u] w fun e w' => ∃ v, e = .returned v ∧ K (a.put o.dst v) w') : o.wp Try.prog a w K Q := by
  unfold Oper.wp execOp
  simp only [ho, resolve, List.map_toArray, List.map_cons, List.map_nil, ht, show ∀ f, a.eval (.func f) = .func (.func f) #[] #[] from fun _ => rfl]
  go_simp
  exact h.mono fun e w' ⟨u, he, hk⟩ => by subst he; exact hk
theorem s_call2 (t s : Nat) (u v : Value) (ts : Array TypeId) (ho : o.op = .call { callee := .value (.func 14), args := #[.tmp t, .tmp s], argTypes := ts }) (ht : a.eval (.tmp t) = u) (hs : a.eval (.tmp s) = v)
    (h : Calls Try.prog 14 #[u, v] w fun e w' => ∃ v, e = .returned v ∧ K (a.put o.dst v) w') : o.wp Try.prog a w K Q := by
  unfold Oper.wp execOp
  simp only [ho, resolve, List.map_toArray, List.map_cons, List.map_nil, ht, hs, show ∀ f, a.eval (.func f) = .func (.func f) #[] #[] from fun _ => rfl]
  go_simp
  exact h.mono fun e w' ⟨u, he, hk⟩ => by subst he; exact hk
theorem s_not (t : Nat) (b : Bool) (ty : TypeId) (ho : o.op = .unOp .not ty (.tmp t)) (ht : a.eval (.tmp t) = .bool b) (hK : K (a.put o.dst (.bool (!b))) w) : o.wp Try.prog a w K Q := by
  unfold Oper.wp execOp
  simp only [ho, ht]
  go_simp
  exact hK
end

/-- What the five operations leave. -/
def GSame (x : Fh) (A D E G : Option Addr) (n c m d e g : Nat) (os bs : List UInt8) : Nat → World → Value → Prop
  | 0, _, v => v = .agg #[.int .i64 x.dscp, .int .i64 x.ecn, .int .i64 x.id, .int .i64 x.flags, .int .i64 x.frag, .int .i64 x.ttl, .int .i64 x.proto, .int .i64 x.src.k, .int .i64 x.src.a, .int .i64 x.src.b, .int .i64 x.src.c, .int .i64 x.src.d, .int .i64 x.dst.k, .int .i64 x.dst.a, .int .i64 x.dst.b, .int .i64 x.dst.c, .int .i64 x.dst.d, .slice E n e, .slice G m g]
  | 1, _, v => v = .agg #[.int .i64 x.dscp, .int .i64 x.ecn, .int .i64 x.id, .int .i64 x.flags, .int .i64 x.frag, .int .i64 x.ttl, .int .i64 x.proto, .int .i64 x.src.k, .int .i64 x.src.a, .int .i64 x.src.b, .int .i64 x.src.c, .int .i64 x.src.d, .int .i64 x.dst.k, .int .i64 x.dst.a, .int .i64 x.dst.b, .int .i64 x.dst.c, .int .i64 x.dst.d, .slice A n c, .slice D m d]
  | 2, w, v => ∃ A6 c6 D6 d6, v = .agg #[.int .i64 x.dscp, .int .i64 x.ecn, .int .i64 x.id, .int .i64 x.flags, .int .i64 x.frag, .int .i64 x.ttl, .int .i64 x.proto, .int .i64 x.src.k, .int .i64 x.src.a, .int .i64 x.src.b, .int .i64 x.src.c, .int .i64 x.src.d, .int .i64 x.dst.k, .int .i64 x.dst.a, .int .i64 x.dst.b, .int .i64 x.dst.c, .int .i64 x.dst.d, .slice A6 n c6, .slice D6 m d6] ∧ RB w w.heap.size A6 os ∧ RB w w.heap.size D6 bs
  | 3, _, v => v = .bool true
  | 4, _, v => v = .bool false
  | _, _, _ => True
theorem gSame_on {x : Fh} {A D E G : Option Addr} {n c m d e g : Nat} {os bs : List UInt8} (j : Nat) (w w' : World) (v : Value) (h : Below w.heap.size w w') (hv : GSame x A D E G n c m d e g os bs j w v) : GSame x A D E G n c m d e g os bs j w' v := by
  match j, hv with
  | 0, hv => exact hv
  | 1, hv => exact hv
  | 2, ⟨A6, c6, D6, d6, e, r, s⟩ => exact ⟨A6, c6, D6, d6, e, (r.below h).more h.size, (s.below h).more h.size⟩
  | 3, hv => exact hv
  | 4, hv => exact hv
  | j + 5, _ => trivial

theorem same_region {ops : Array Oper} {id : Nat} {a : Act} {w : World} {Q : Exit → Act → World → Prop} (N s1 s5 p g1 g5 : Nat) (o0 o1 o2 o3 o4 : Oper) (ts2 ts3 : Array TypeId) (ty4 : TypeId) (hops : ops = #[o0, o1, o2, o3, o4]) (hf : formB ops N [s1, s5] = true) (hN : a.tmps.size = N) (hp : p + 5 ≤ N)
    (e0 : o0.op = .load 31 (.tmp s5) ∧ o0.dst = some p) (e1 : o1.op = .load 26 (.tmp s1) ∧ o1.dst = some (p + 1)) (e2 : o2.op = .call { callee := .value (.func 12), args := #[.tmp (p + 1)], argTypes := ts2 } ∧ o2.dst = some (p + 2))
    (e3 : o3.op = .call { callee := .value (.func 14), args := #[.tmp p, .tmp (p + 2)], argTypes := ts3 } ∧ o3.dst = some (p + 3)) (e4 : o4.op = .unOp .not ty4 (.tmp (p + 3)) ∧ o4.dst = some (p + 4))
    (n2 : (needOf ops 2).contains (1, p + 1) = true) (n3 : (needOf ops 3).contains (0, p) = true) (n3' : (needOf ops 3).contains (2, p + 2) = true) (n4 : (needOf ops 4).contains (3, p + 3) = true)
    (hs1 : a.tmps.getD s1 undef = .pointer (some ⟨g1, 0, none⟩)) (hs5 : a.tmps.getD s5 undef = .pointer (some ⟨g5, 0, none⟩))
    (x : Fh) (A D E G : Option Addr) (n c m d e g : Nat) (os bs : List UInt8)
    (hq1 : w.heap[g1]? = some (.cells #[.int .i64 x.dscp, .int .i64 x.ecn, .int .i64 x.id, .int .i64 x.flags, .int .i64 x.frag, .int .i64 x.ttl, .int .i64 x.proto, .int .i64 x.src.k, .int .i64 x.src.a, .int .i64 x.src.b, .int .i64 x.src.c, .int .i64 x.src.d, .int .i64 x.dst.k, .int .i64 x.dst.a, .int .i64 x.dst.b, .int .i64 x.dst.c, .int .i64 x.dst.d, .slice A n c, .slice D m d] 26 (0, 0))) (hq5 : w.heap[g5]? = some (.cells #[.int .i64 x.dscp, .int .i64 x.ecn, .int .i64 x.id, .int .i64 x.flags, .int .i64 x.frag, .int .i64 x.ttl, .int .i64 x.proto, .int .i64 x.src.k, .int .i64 x.src.a, .int .i64 x.src.b, .int .i64 x.src.c, .int .i64 x.src.d, .int .i64 x.dst.k, .int .i64 x.dst.a, .int .i64 x.dst.b, .int .i64 x.dst.c, .int .i64 x.dst.d, .slice E n e, .slice G m g] 31 (0, 0)))
    (rA : RB w w.heap.size A os) (rD : RB w w.heap.size D bs) (rE : RB w w.heap.size E os) (rG : RB w w.heap.size G bs) (hl : os.length = n) (hm : bs.length = m) (hn : n ≤ 1048576) (hm2 : m ≤ 1048576)
    (h : ∀ w' A6 c6 D6 d6, Below w.heap.size w w' → Q .normal (((((a.put (some p) (.agg #[.int .i64 x.dscp, .int .i64 x.ecn, .int .i64 x.id, .int .i64 x.flags, .int .i64 x.frag, .int .i64 x.ttl, .int .i64 x.proto, .int .i64 x.src.k, .int .i64 x.src.a, .int .i64 x.src.b, .int .i64 x.src.c, .int .i64 x.src.d, .int .i64 x.dst.k, .int .i64 x.dst.a, .int .i64 x.dst.b, .int .i64 x.dst.c, .int .i64 x.dst.d, .slice E n e, .slice G m g])).put (some (p + 1)) (.agg #[.int .i64 x.dscp, .int .i64 x.ecn, .int .i64 x.id, .int .i64 x.flags, .int .i64 x.frag, .int .i64 x.ttl, .int .i64 x.proto, .int .i64 x.src.k, .int .i64 x.src.a, .int .i64 x.src.b, .int .i64 x.src.c, .int .i64 x.src.d, .int .i64 x.dst.k, .int .i64 x.dst.a, .int .i64 x.dst.b, .int .i64 x.dst.c, .int .i64 x.dst.d, .slice A n c, .slice D m d])).put (some (p + 2)) (.agg #[.int .i64 x.dscp, .int .i64 x.ecn, .int .i64 x.id, .int .i64 x.flags, .int .i64 x.frag, .int .i64 x.ttl, .int .i64 x.proto, .int .i64 x.src.k, .int .i64 x.src.a, .int .i64 x.src.b, .int .i64 x.src.c, .int .i64 x.src.d, .int .i64 x.dst.k, .int .i64 x.dst.a, .int .i64 x.dst.b, .int .i64 x.dst.c, .int .i64 x.dst.d, .slice A6 n c6, .slice D6 m d6])).put (some (p + 3)) (.bool true)).put (some (p + 4)) (.bool false)) w') :
    (Code.region id ops true).wp Try.prog Q a w := by
  have hmx : Try.prog.follows .mixedOrders = true := by kernel_rfl
  refine wp_region_kept hmx (GSame x A D E G n c m d e g os bs) [s1, s5] (fun _ v => Below w.heap.size w v) (fun v v' => Below v.heap.size v v') N hf hN ⟨rfl, rfl, rfl, Nat.le_refl _, fun _ _ => rfl⟩ (fun j v v' u hb hv => gSame_on j v v' u hb hv) ?_ ?_
  · intro j o ho k a' v K' hx hnd hk hI hK
    subst hops
    match j, ho with
    | 0, ho =>
      obtain rfl := Option.some.inj ho
      exact wp_load_row 31 _ e0.1 g5 (out_of hx s5 (by simp) hs5) _ _ (0, 0) _ (K.below hI hq5) Try.underlying31 rfl info_four (hK _ _ rfl (Below.refl _ _) hI)
    | 1, ho =>
      obtain rfl := Option.some.inj ho
      exact wp_load_row 26 _ e1.1 g1 (out_of hx s1 (by simp) hs1) _ _ (0, 0) _ (K.below hI hq1) Try.underlying26 rfl info_lfour (hK _ _ rfl (Below.refl _ _) hI)
    | 2, ho =>
      obtain rfl := Option.some.inj ho
      have h1 : a'.eval (.tmp (p + 1)) = .agg #[.int .i64 x.dscp, .int .i64 x.ecn, .int .i64 x.id, .int .i64 x.flags, .int .i64 x.frag, .int .i64 x.ttl, .int .i64 x.proto, .int .i64 x.src.k, .int .i64 x.src.a, .int .i64 x.src.b, .int .i64 x.src.c, .int .i64 x.src.d, .int .i64 x.dst.k, .int .i64 x.dst.a, .int .i64 x.dst.b, .int .i64 x.dst.c, .int .i64 x.dst.d, .slice A n c, .slice D m d] := (need_of (Γ := GSame x A D E G n c m d e g os bs) (w := v) hnd 1 (p + 1) n2 :)
      refine s_call1 _ _ _ e2.1 h1 ((toFourC x A D n c m d os bs v ((rA.below hI).more hI.size) hl hn ((rD.below hI).more hI.size) hm hm2).mono ?_)
      rintro e' v' ⟨A6, c6, D6, d6, rfl, o6, p6, _, b6⟩
      exact ⟨_, rfl, hK _ _ ⟨A6, c6, D6, d6, rfl, RB.of_own o6, RB.of_own p6⟩ b6 (bthen hI b6)⟩
    | 3, ho =>
      obtain rfl := Option.some.inj ho
      have h0 : a'.eval (.tmp p) = .agg #[.int .i64 x.dscp, .int .i64 x.ecn, .int .i64 x.id, .int .i64 x.flags, .int .i64 x.frag, .int .i64 x.ttl, .int .i64 x.proto, .int .i64 x.src.k, .int .i64 x.src.a, .int .i64 x.src.b, .int .i64 x.src.c, .int .i64 x.src.d, .int .i64 x.dst.k, .int .i64 x.dst.a, .int .i64 x.dst.b, .int .i64 x.dst.c, .int .i64 x.dst.d, .slice E n e, .slice G m g] := (need_of (Γ := GSame x A D E G n c m d e g os bs) (w := v) hnd 0 p n3 :)
      obtain ⟨A6, c6, D6, d6, h2, r6, s6⟩ : ∃ A6 c6 D6 d6, a'.eval (.tmp (p + 2)) = .agg #[.int .i64 x.dscp, .int .i64 x.ecn, .int .i64 x.id, .int .i64 x.flags, .int .i64 x.frag, .int .i64 x.ttl, .int .i64 x.proto, .int .i64 x.src.k, .int .i64 x.src.a, .int .i64 x.src.b, .int .i64 x.src.c, .int .i64 x.src.d, .int .i64 x.dst.k, .int .i64 x.dst.a, .int .i64 x.dst.b, .int .i64 x.dst.c, .int .i64 x.dst.d, .slice A6 n c6, .slice D6 m d6] ∧ RB v v.heap.size A6 os ∧ RB v v.heap.size D6 bs := (need_of (Γ := GSame x A D E G n c m d e g os bs) (w := v) hnd 2 (p + 2) n3' :)
      refine s_call2 _ _ _ _ _ e3.1 h0 h2 ((eqFourC x E G A6 D6 n e m g c6 d6 os bs v ((rE.below hI).more hI.size) r6 hl hn ((rG.below hI).more hI.size) s6 hm hm2).mono ?_)
      rintro e' v' ⟨rfl, b6⟩
      exact ⟨_, rfl, hK _ _ rfl b6 (bthen hI b6)⟩
    | 4, ho =>
      obtain rfl := Option.some.inj ho
      have h3 : a'.eval (.tmp (p + 3)) = .bool true := (need_of (Γ := GSame x A D E G n c m d e g os bs) (w := v) hnd 3 (p + 3) n4 :)
      exact s_not _ true _ e4.1 h3 (hK _ _ rfl (Below.refl _ _) hI)
    | j + 5, ho => simp at ho
  · intro a' w' hsz hdf hout hrest hG hI
    subst hops
    have g0 : a'.tmps.getD p undef = _ := hG 0 o0 p rfl e0.2
    have g1' : a'.tmps.getD (p + 1) undef = _ := hG 1 o1 (p + 1) rfl e1.2
    obtain ⟨A6, c6, D6, d6, g2, _, _⟩ : ∃ A6 c6 D6 d6, a'.tmps.getD (p + 2) undef = .agg #[.int .i64 x.dscp, .int .i64 x.ecn, .int .i64 x.id, .int .i64 x.flags, .int .i64 x.frag, .int .i64 x.ttl, .int .i64 x.proto, .int .i64 x.src.k, .int .i64 x.src.a, .int .i64 x.src.b, .int .i64 x.src.c, .int .i64 x.src.d, .int .i64 x.dst.k, .int .i64 x.dst.a, .int .i64 x.dst.b, .int .i64 x.dst.c, .int .i64 x.dst.d, .slice A6 n c6, .slice D6 m d6] ∧ RB w' w'.heap.size A6 os ∧ RB w' w'.heap.size D6 bs := hG 2 o2 (p + 2) rfl e2.2
    have g3 : a'.tmps.getD (p + 3) undef = _ := hG 3 o3 (p + 3) rfl e3.2
    have g4 : a'.tmps.getD (p + 4) undef = _ := hG 4 o4 (p + 4) rfl e4.2
    have E0 := act_eq5 p hsz hN hdf hp (fun t t0 t1 t2 t3 t4 => hrest t (fun j o hj hd => by
      match j, hj with
      | 0, hj => obtain rfl := Option.some.inj hj; exact t0 (Option.some.inj (hd.symm.trans e0.2))
      | 1, hj => obtain rfl := Option.some.inj hj; exact t1 (Option.some.inj (hd.symm.trans e1.2))
      | 2, hj => obtain rfl := Option.some.inj hj; exact t2 (Option.some.inj (hd.symm.trans e2.2))
      | 3, hj => obtain rfl := Option.some.inj hj; exact t3 (Option.some.inj (hd.symm.trans e3.2))
      | 4, hj => obtain rfl := Option.some.inj hj; exact t4 (Option.some.inj (hd.symm.trans e4.2))
      | j + 5, hj => simp at hj)) _ _ _ _ _ g0 g1' g2 g3 g4
    rw [E0]
    exact h w' A6 c6 D6 d6 hI
end Go.Proofs.Ytekdfffjlcikeaa
