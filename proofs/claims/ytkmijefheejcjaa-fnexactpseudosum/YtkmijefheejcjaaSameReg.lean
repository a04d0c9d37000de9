/-
  The region in which a law compares a variable with a new copy of its argument: it draws its order. For any struct, any copy, any comparison.
-/
import Derived.Test.YtkmijefheejcjaaFourReg
namespace Go.Proofs.Ytkmijefheejcjaa
set_option maxRecDepth 100000
open Go.RowKit

section
variable {o : Oper} {a : Act} {w : World} {K : Act → World → Prop} {Q : Exit → Act → World → Prop}
theorem z_not (t : Nat) (b : Bool) (ty : TypeId) (ho : o.op = .unOp .not ty (.tmp t)) (ht : a.eval (.tmp t) = .bool b) (hK : K (a.put o.dst (.bool (!b))) w) : o.wp Try.prog a w K Q := by
  unfold Oper.wp execOp
  simp only [ho, ht]
  go_simp
  exact hK
theorem z_load (ty : TypeId) (t g : Nat) (u : Value) (ho : o.op = .load ty (.tmp t)) (ht : a.eval (.tmp t) = .pointer (some ⟨g, 0, none⟩)) (hl : (loadVar ty ⟨g, 0, none⟩).run Try.prog w = .ok u w) (hK : K (a.put o.dst u) w) : o.wp Try.prog a w K Q := by
  unfold Oper.wp execOp
  simp only [ho, ht, Instr.loadAt, Instr.sureAddr, Sem.run_bind, Sem.run_pure, Result.andThen_ok, hl]
  exact hK
end

/-- A call of function f is taken by a contract of it. -/
def Steps1 (f : Nat) : Prop := ∀ (o : Oper) (a : Act) (w : World) (K : Act → World → Prop) (Q : Exit → Act → World → Prop) (t : Nat) (u : Value) (ts : Array TypeId), o.op = .call { callee := .value (.func f), args := #[.tmp t], argTypes := ts } → a.eval (.tmp t) = u →
    (Calls Try.prog f #[u] w fun e w' => ∃ v, e = .returned v ∧ K (a.put o.dst v) w') → o.wp Try.prog a w K Q
def Steps2 (f : Nat) : Prop := ∀ (o : Oper) (a : Act) (w : World) (K : Act → World → Prop) (Q : Exit → Act → World → Prop) (t s : Nat) (u v : Value) (ts : Array TypeId), o.op = .call { callee := .value (.func f), args := #[.tmp t, .tmp s], argTypes := ts } → a.eval (.tmp t) = u → a.eval (.tmp s) = v →
    (Calls Try.prog f #[u, v] w fun e w' => ∃ v, e = .returned v ∧ K (a.put o.dst v) w') → o.wp Try.prog a w K Q

/-- What the five operations leave. -/
def GSameZ (U5 U1 : Value) (Cp : World → Value → Prop) : Nat → World → Value → Prop
  | 0, _, v => v = U5
  | 1, _, v => v = U1
  | 2, w, v => Cp w v
  | 3, _, v => v = .bool true
  | 4, _, v => v = .bool false
  | _, _, _ => True
theorem gSameZ_on {U5 U1 : Value} {Cp : World → Value → Prop} (hc : ∀ v v' u, Below v.heap.size v v' → Cp v u → Cp v' u) (j : Nat) (w w' : World) (v : Value) (h : Below w.heap.size w w') (hv : GSameZ U5 U1 Cp j w v) : GSameZ U5 U1 Cp j w' v := by
  match j, hv with
  | 0, hv => exact hv
  | 1, hv => exact hv
  | 2, hv => exact hc _ _ _ h hv
  | 3, hv => exact hv
  | 4, hv => exact hv
  | j + 5, _ => trivial

theorem same_regionZ {ops : Array Oper} {id : Nat} {a : Act} {w : World} {Q : Exit → Act → World → Prop} {fc fe : Nat} (S1 : Steps1 fc) (S2 : Steps2 fe) (N s1 s5 p g1 g5 : Nat) (tl ti : TypeId) (o0 o1 o2 o3 o4 : Oper) (ts2 ts3 : Array TypeId) (ty4 : TypeId) (hops : ops = #[o0, o1, o2, o3, o4]) (hf : formB ops N [s1, s5] = true) (hN : a.tmps.size = N) (hp : p + 5 ≤ N)
    (e0 : o0.op = .load ti (.tmp s5) ∧ o0.dst = some p) (e1 : o1.op = .load tl (.tmp s1) ∧ o1.dst = some (p + 1)) (e2 : o2.op = .call { callee := .value (.func fc), args := #[.tmp (p + 1)], argTypes := ts2 } ∧ o2.dst = some (p + 2))
    (e3 : o3.op = .call { callee := .value (.func fe), args := #[.tmp p, .tmp (p + 2)], argTypes := ts3 } ∧ o3.dst = some (p + 3)) (e4 : o4.op = .unOp .not ty4 (.tmp (p + 3)) ∧ o4.dst = some (p + 4))
    (n2 : (needOf ops 2).contains (1, p + 1) = true) (n3 : (needOf ops 3).contains (0, p) = true) (n3' : (needOf ops 3).contains (2, p + 2) = true) (n4 : (needOf ops 4).contains (3, p + 3) = true)
    (hs1 : a.tmps.getD s1 undef = .pointer (some ⟨g1, 0, none⟩)) (hs5 : a.tmps.getD s5 undef = .pointer (some ⟨g5, 0, none⟩))
    (U1 U5 : Value) (Cp : World → Value → Prop) (hc : ∀ v v' u, Below v.heap.size v v' → Cp v u → Cp v' u)
    (hq1 : ∀ v, Below w.heap.size w v → (loadVar tl ⟨g1, 0, none⟩).run Try.prog v = .ok U1 v) (hq5 : ∀ v, Below w.heap.size w v → (loadVar ti ⟨g5, 0, none⟩).run Try.prog v = .ok U5 v)
    (hcopy : ∀ v, Below w.heap.size w v → Calls Try.prog fc #[U1] v fun e v' => ∃ u, e = .returned u ∧ Cp v' u ∧ Below v.heap.size v v')
    (hsame : ∀ v u, Below w.heap.size w v → Cp v u → Calls Try.prog fe #[U5, u] v fun e v' => e = .returned (.bool true) ∧ Below v.heap.size v v')
    (h : ∀ w' u, Below w.heap.size w w' → Q .normal (((((a.put (some p) U5).put (some (p + 1)) U1).put (some (p + 2)) u).put (some (p + 3)) (.bool true)).put (some (p + 4)) (.bool false)) w') :
    (Code.region id ops true).wp Try.prog Q a w := by
  have hmx : Try.prog.follows .mixedOrders = true := by kernel_rfl
  refine wp_region_kept hmx (GSameZ U5 U1 Cp) [s1, s5] (fun _ v => Below w.heap.size w v) (fun v v' => Below v.heap.size v v') N hf hN ⟨rfl, rfl, rfl, Nat.le_refl _, fun _ _ => rfl⟩ (fun j v v' u hb hv => gSameZ_on hc j v v' u hb hv) ?_ ?_
  · intro j o ho k a' v K' hx hnd hk hI hK
    subst hops
    match j, ho with
    | 0, ho =>
      obtain rfl := Option.some.inj ho
      exact z_load ti _ g5 _ e0.1 (out_of hx s5 (by simp) hs5) (hq5 v hI) (hK _ _ rfl (Below.refl _ _) hI)
    | 1, ho =>
      obtain rfl := Option.some.inj ho
      exact z_load tl _ g1 _ e1.1 (out_of hx s1 (by simp) hs1) (hq1 v hI) (hK _ _ rfl (Below.refl _ _) hI)
    | 2, ho =>
      obtain rfl := Option.some.inj ho
      have h1 : a'.eval (.tmp (p + 1)) = U1 := (need_of (Γ := GSameZ U5 U1 Cp) (w := v) hnd 1 (p + 1) n2 :)
      refine S1 _ _ _ _ _ _ _ _ e2.1 h1 ((hcopy v hI).mono ?_)
      rintro e' v' ⟨u, rfl, o6, b6⟩
      exact ⟨_, rfl, hK _ _ o6 b6 (bthen hI b6)⟩
    | 3, ho =>
      obtain rfl := Option.some.inj ho
      have h0 : a'.eval (.tmp p) = U5 := (need_of (Γ := GSameZ U5 U1 Cp) (w := v) hnd 0 p n3 :)
      have h2 : Cp v (a'.eval (.tmp (p + 2))) := (need_of (Γ := GSameZ U5 U1 Cp) (w := v) hnd 2 (p + 2) n3' :)
      refine S2 _ _ _ _ _ _ _ _ _ _ e3.1 h0 rfl ((hsame v _ hI h2).mono ?_)
      rintro e' v' ⟨rfl, b6⟩
      exact ⟨_, rfl, hK _ _ rfl b6 (bthen hI b6)⟩
    | 4, ho =>
      obtain rfl := Option.some.inj ho
      have h3 : a'.eval (.tmp (p + 3)) = .bool true := (need_of (Γ := GSameZ U5 U1 Cp) (w := v) hnd 3 (p + 3) n4 :)
      exact z_not _ true _ e4.1 h3 (hK _ _ rfl (Below.refl _ _) hI)
    | j + 5, ho => simp at ho
  · intro a' w' hsz hdf hout hrest hG hI
    subst hops
    have g0 : a'.tmps.getD p undef = _ := hG 0 o0 p rfl e0.2
    have g1' : a'.tmps.getD (p + 1) undef = _ := hG 1 o1 (p + 1) rfl e1.2
    have g3 : a'.tmps.getD (p + 3) undef = _ := hG 3 o3 (p + 3) rfl e3.2
    have g4 : a'.tmps.getD (p + 4) undef = _ := hG 4 o4 (p + 4) rfl e4.2
    have E0 := act_eq5 p hsz hN hdf hp (fun t t0 t1 t2 t3 t4 => hrest t (fun j o hj hd => by
      match j, hj with
      | 0, hj => obtain rfl := Option.some.inj hj; exact t0 (Option.some.inj (hd.symm.trans e0.2))
      | 1, hj => obtain rfl := Option.some.inj hj; exact t1 (Option.some.inj (hd.symm.trans e1.2))
      | 2, hj => obtain rfl := Option.some.inj hj; exact t2 (Option.some.inj (hd.symm.trans e2.2))
      | 3, hj => obtain rfl := Option.some.inj hj; exact t3 (Option.some.inj (hd.symm.trans e3.2))
      | 4, hj => obtain rfl := Option.some.inj hj; exact t4 (Option.some.inj (hd.symm.trans e4.2))
      | j + 5, hj => simp at hj)) _ _ _ _ _ g0 g1' rfl g3 g4
    rw [E0]
    exact h w' _ hI
end Go.Proofs.Ytkmijefheejcjaa
