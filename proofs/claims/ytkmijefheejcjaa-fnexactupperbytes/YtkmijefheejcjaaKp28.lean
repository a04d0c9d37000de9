/-
  Calls as single operations of a region: Put16 and Put32.
-/
import Derived.Test.YtkmijefheejcjaaKp26
import Derived.Test.YtkmijefheejcjaaKp06
import Derived.Test.YtkmijefheejcjaaKp07
import Derived.Test.YtkmijefheejcjaaKp27
namespace Go.Proofs.Ytkmijefheejcjaa
set_option maxRecDepth 100000
open Go.RowKit

section
variable {o : Oper} {a : Act} {w : World} {K : Act → World → Prop} {Q : Exit → Act → World → Prop}
theorem u_p16S (x : Operand) (x0 : Value) (ts : Array TypeId) (ho : o.op = .call { callee := .value (.func 84), args := #[x], argTypes := ts }) (h0 : a.eval x = x0)
    (h : Calls Try.prog 84 #[x0] w fun e w' => ∃ v, e = .returned v ∧ K (a.put o.dst v) w') : o.wp Try.prog a w K Q := by
  unfold Oper.wp execOp
  simp only [ho, resolve, List.map_toArray, List.map_cons, List.map_nil, h0, show ∀ f, a.eval (.func f) = .func (.func f) #[] #[] from fun _ => rfl]
  go_simp
  exact h.mono fun e w' ⟨u, he, hk⟩ => by subst he; exact hk
theorem u_p32S (x : Operand) (x0 : Value) (ts : Array TypeId) (ho : o.op = .call { callee := .value (.func 101), args := #[x], argTypes := ts }) (h0 : a.eval x = x0)
    (h : Calls Try.prog 101 #[x0] w fun e w' => ∃ v, e = .returned v ∧ K (a.put o.dst v) w') : o.wp Try.prog a w K Q := by
  unfold Oper.wp execOp
  simp only [ho, resolve, List.map_toArray, List.map_cons, List.map_nil, h0, show ∀ f, a.eval (.func f) = .func (.func f) #[] #[] from fun _ => rfl]
  go_simp
  exact h.mono fun e w' ⟨u, he, hk⟩ => by subst he; exact hk
theorem u_p16I (x : Operand) (x0 : Value) (ts : Array TypeId) (ho : o.op = .call { callee := .value (.func 58), args := #[x], argTypes := ts }) (h0 : a.eval x = x0)
    (h : Calls Try.prog 58 #[x0] w fun e w' => ∃ v, e = .returned v ∧ K (a.put o.dst v) w') : o.wp Try.prog a w K Q := by
  unfold Oper.wp execOp
  simp only [ho, resolve, List.map_toArray, List.map_cons, List.map_nil, h0, show ∀ f, a.eval (.func f) = .func (.func f) #[] #[] from fun _ => rfl]
  go_simp
  exact h.mono fun e w' ⟨u, he, hk⟩ => by subst he; exact hk
theorem u_p32I (x : Operand) (x0 : Value) (ts : Array TypeId) (ho : o.op = .call { callee := .value (.func 57), args := #[x], argTypes := ts }) (h0 : a.eval x = x0)
    (h : Calls Try.prog 57 #[x0] w fun e w' => ∃ v, e = .returned v ∧ K (a.put o.dst v) w') : o.wp Try.prog a w K Q := by
  unfold Oper.wp execOp
  simp only [ho, resolve, List.map_toArray, List.map_cons, List.map_nil, h0, show ∀ f, a.eval (.func f) = .func (.func f) #[] #[] from fun _ => rfl]
  go_simp
  exact h.mono fun e w' ⟨u, he, hk⟩ => by subst he; exact hk
theorem u_headT (x : Operand) (x0 : Value) (ts : Array TypeId) (ho : o.op = .call { callee := .value (.func 137), args := #[x], argTypes := ts }) (h0 : a.eval x = x0)
    (h : Calls Try.prog 137 #[x0] w fun e w' => ∃ v, e = .returned v ∧ K (a.put o.dst v) w') : o.wp Try.prog a w K Q := by
  unfold Oper.wp execOp
  simp only [ho, resolve, List.map_toArray, List.map_cons, List.map_nil, h0, show ∀ f, a.eval (.func f) = .func (.func f) #[] #[] from fun _ => rfl]
  go_simp
  exact h.mono fun e w' ⟨u, he, hk⟩ => by subst he; exact hk
end
theorem put32J (n : Int) (w : World) : Calls Try.prog 57 #[.int .i64 n] w (TwoOut (put32 n) 4 w) := (implPut32 n w).mono fun _ _ ⟨h, o, b⟩ => ⟨_, _, h, o, b⟩
/-- What encoding leaves: a slice of its own that reads as L. -/
def EncOut (L : List UInt8) (w : World) (e : Ending) (w' : World) : Prop := ∃ A c, e = .returned (.slice A L.length c) ∧ w'.ownsRow w.heap.size 5 1 (.slice A L.length c) L.length (cellsOf L) ∧ Below w.heap.size w w'
theorem encOut {L M : List UInt8} {N : Nat} {w w' : World} {A : Option Addr} {c : Nat} (hM : M = L) (hN : M.length = N) (h : w'.ownsRow w.heap.size 5 1 (.slice A N c) N (cellsOf M) ∧ Below w.heap.size w w') : EncOut L w (.returned (.slice A N c)) w' := by
  subst hM
  subst hN
  exact ⟨A, c, rfl, h.1, h.2⟩
end Go.Proofs.Ytkmijefheejcjaa
