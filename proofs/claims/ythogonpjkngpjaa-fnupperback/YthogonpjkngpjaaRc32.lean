/-
  FourOk in the program. FourOk in the program. FourOk in the program, at every packet. The head of an IPv4 packet, in the model. FourPiece and HeadSum, in the model and in the program. An IPv4 packet is read by the program: what fourOf answers. An IPv4 packet is read by the program: its checksum. An IPv4 packet is read by the program. A region that draws its order, one of the first operations of which (p) makes one row grow; what the others leave holds on beside that. Plain: any program. 'append' onto a new empty slice of bytes turns nothing that was there before. What the program's reader takes for an ICMP message. What the program's reader takes for a segment.
-/
import Derived.Test.YthogonpjkngpjaaRc08
import Derived.Lib.QuietBelow
import Derived.Deep.QuietTactic
import Derived.BigQuiet
import Derived.Test.YthogonpjkngpjaaRc31
import Derived.Test.YthogonpjkngpjaaRc13
import Derived.Test.YthogonpjkngpjaaRc09
import Derived.Test.YthogonpjkngpjaaRc11
import Derived.Test.YthogonpjkngpjaaRc03
import Derived.Test.YthogonpjkngpjaaRc01
namespace Go.Proofs.Ythogonpjkngpjaa
set_option maxRecDepth 100000
open Go.RowKit
end Go.Proofs.Ythogonpjkngpjaa

namespace Go.Proofs.Ythogonpjkngpjaa
set_option maxRecDepth 100000
open Go.RowKit
theorem K.resCell3 {fn : Func} {p u v : Tmp} {ty : TypeId} (h : fn.results = #[.cell p ty, .tmp u, .tmp v]) (tmps : Array Value) (P : Program) (w : World) (g : Nat) (cs : Array Value)
    (hp : tmps.getD p undef = .pointer (some ⟨g, 0, none⟩)) (hld : (loadVar ty ⟨g, 0, none⟩).run P w = .ok (.agg cs) w) :
    (results fn tmps).run P w = .ok (.tuple #[.agg cs, tmps.getD u undef, tmps.getD v undef]) w := by
  have hp' : tmps[p]?.getD undef = .pointer (some ⟨g, 0, none⟩) := by simpa using hp
  simp [results, h, hp', asAddr, hld]
section
variable {o : Oper} {a : Act} {w : World} {K : Act → World → Prop} {Q : Exit → Act → World → Prop}
theorem t_nil (t g : Nat) (ho : o.op = .nilCheck (.tmp t)) (ht : a.eval (.tmp t) = .pointer (some ⟨g, 0, none⟩)) (hK : K (a.put o.dst (.pointer (some ⟨g, 0, none⟩))) w) : o.wp Try.prog a w K Q := by
  unfold Oper.wp execOp
  simp only [ho, ht]
  go_simp
  exact hK
theorem t_fldR (t g : Nat) (ho : o.op = .fieldAddr 79 (.tmp t) 0) (ht : a.eval (.tmp t) = .pointer (some ⟨g, 0, none⟩)) (hK : K (a.put o.dst (.pointer (some ⟨g, 0, none⟩))) w) : o.wp Try.prog a w K Q := by
  unfold Oper.wp execOp
  simp only [ho, ht]
  go_simp
  exact hK
theorem t_left (t : Nat) (u : Value) (ts : Array TypeId) (ho : o.op = .call { callee := .value (.func 92), args := #[.tmp t], argTypes := ts }) (ht : a.eval (.tmp t) = u)
    (h : Calls Try.prog 92 #[u] w fun e w' => ∃ v, e = .returned v ∧ K (a.put o.dst v) w') : o.wp Try.prog a w K Q := by
  unfold Oper.wp execOp
  simp only [ho, resolve, List.map_toArray, List.map_cons, List.map_nil, ht, show ∀ f, a.eval (.func f) = .func (.func f) #[] #[] from fun _ => rfl]
  go_simp
  exact h.mono fun e w' ⟨u, he, hk⟩ => by subst he; exact hk
theorem t_take (t s : Nat) (u v : Value) (ts : Array TypeId) (ho : o.op = .call { callee := .value (.func 91), args := #[.tmp t, .tmp s], argTypes := ts }) (ht : a.eval (.tmp t) = u) (hs : a.eval (.tmp s) = v)
    (h : Calls Try.prog 91 #[u, v] w fun e w' => ∃ v, e = .returned v ∧ K (a.put o.dst v) w') : o.wp Try.prog a w K Q := by
  unfold Oper.wp execOp
  simp only [ho, resolve, List.map_toArray, List.map_cons, List.map_nil, ht, hs, show ∀ f, a.eval (.func f) = .func (.func f) #[] #[] from fun _ => rfl]
  go_simp
  exact h.mono fun e w' ⟨u, he, hk⟩ => by subst he; exact hk
end
end Go.Proofs.Ythogonpjkngpjaa

namespace Go.Proofs.Ythogonpjkngpjaa
set_option maxRecDepth 100000
open Go.RowKit
inductive Fq (blk : Option Nat) where
  | val (v : Value)
  | pr (f : World → Value → Prop) (h1 : ∀ w w' v, Below w.heap.size w w' → f w v → f w' v) (h2 : ∀ w w' v, w.grownBy w' blk → f w v → f w' v)
  | any
def Fq.holds {blk : Option Nat} : Fq blk → World → Value → Prop
  | .val u, _, v => v = u
  | .pr f _ _, w, v => f w v
  | .any, _, _ => True
theorem Fq.on {blk : Option Nat} {w w' : World} (hb : Below w.heap.size w w') (f : Fq blk) (v : Value) (h : f.holds w v) : f.holds w' v := by
  cases f with
  | val u => exact h
  | pr f k _ => exact k w w' v hb h
  | any => trivial
theorem Fq.grown {blk : Option Nat} {w w' : World} (hb : w.grownBy w' blk) (f : Fq blk) (v : Value) (h : f.holds w v) : f.holds w' v := by
  cases f with
  | val u => exact h
  | pr f _ k => exact k w w' v hb h
  | any => trivial
section
variable {P : Program} {ops : Array Oper} {Q : Exit → Act → World → Prop}
theorem wp_region_grow {id : Nat} {a : Act} {w : World} (blk : Option Nat) (hmx : P.follows .mixedOrders = true) (k n : Nat) (L : List (Nat × Nat)) (R : List Oper) (F : List (Fq blk)) (hf : thenB ops n k = true) (hL : dstsOf ops k = L) (hR : ops.toList.drop k = R) (p dp : Nat) (hpk : p < k) (hpL : (p, dp) ∈ L) (hn : a.tmps.size = n)
    (J : Bool → World → Prop) (hJ : ∀ b v v', Below v.heap.size v v' → J b v → J b v') (h0 : J false { w with drawn := w.drawn + 1 }) (G : World → Value → Prop) (hG : ∀ v v' u, Below v.heap.size v v' → G v u → G v' u)
    (hop : ∀ (j : Nat) o, j < k → j ≠ p → ops[j]? = some o → ∀ b a' v K, ((markOf ops (p + 1) [p]).contains j = true → b = false) → (∀ t, (∀ q ∈ L, q.2 ≠ t) → a'.tmps.getD t undef = a.tmps.getD t undef) → (∀ q ∈ needOf ops j, q.1 ≠ p → (F.getD q.1 .any).holds v (a'.tmps.getD q.2 undef)) → J b v →
      (∀ u v', (F.getD j .any).holds v' u → Below v.heap.size v v' → K (a'.put o.dst u) v') → o.wp P a' v K Q)
    (hpp : ∀ o, ops[p]? = some o → ∀ a' v K, (∀ t, (∀ q ∈ L, q.2 ≠ t) → a'.tmps.getD t undef = a.tmps.getD t undef) → (∀ q ∈ needOf ops p, q.1 ≠ p → (F.getD q.1 .any).holds v (a'.tmps.getD q.2 undef)) → J false v →
      (∀ u v', G v' u → v.grownBy v' blk → J true v' → K (a'.put o.dst u) v') → o.wp P a' v K Q)
    (hend : ∀ (f : Nat → Value) v, (∀ q ∈ L, q.1 ≠ p → (F.getD q.1 .any).holds v (f q.1)) → G v (f p) → J true v → wpList P ops Q R (L.foldl (fun b q => b.put (some q.2) (f q.1)) a) v) : (Code.region id ops true).wp P Q a w := by
  refine wp_region_thenP hmx k n L R hf hL hR (fun j b v u => if j = p then (b = true → G v u) else (F.getD j .any).holds v u) J p hpk hn h0 ?_ ?_ ?_
  · intro j o hj hjp ho b a' v K hc hk hnd hI hK
    refine hop j o hj hjp ho b a' v K hc hk (fun q hq hqp => by have := hnd q hq; rwa [if_neg hqp] at this) hI (fun u v' hu hb => hK u v' (by rw [if_neg hjp]; exact hu) (fun i x hx => ?_) (hJ b v v' hb hI))
    by_cases hip : i = p
    · rw [if_pos hip] at hx ⊢
      exact fun e => hG v v' x hb (hx e)
    · rw [if_neg hip] at hx ⊢
      exact Fq.on hb _ _ hx
  · intro o ho a' v K hk hnd hI hK
    refine hpp o ho a' v K hk (fun q hq hqp => by have := hnd q hq; rwa [if_neg hqp] at this) hI (fun u v' hu hg hJ' => hK u v' (by rw [if_pos rfl]; exact fun _ => hu) (fun i x hip hx => ?_) hJ')
    rw [if_neg hip] at hx ⊢
    exact Fq.grown hg _ _ hx
  · intro f v hf' hI
    have hp := hf' (p, dp) hpL
    simp only [if_true] at hp
    exact hend f v (fun q hq hqp => by have := hf' q hq; rwa [if_neg hqp] at this) (hp trivial) hI
theorem grow_of {blk : Option Nat} {j p : Nat} {F : List (Fq blk)} {v : World} {a' : Act} (hnd : ∀ q ∈ needOf ops j, q.1 ≠ p → (F.getD q.1 .any).holds v (a'.tmps.getD q.2 undef)) (i t : Nat) (h : (needOf ops j).contains (i, t) = true) (hi : i ≠ p) : (F.getD i .any).holds v (a'.eval (.tmp t)) :=
  hnd (i, t) (by simpa using h) hi
end
end Go.Proofs.Ythogonpjkngpjaa

namespace Go.Proofs.Ythogonpjkngpjaa
set_option maxRecDepth 100000
open Go.RowKit
def EmptyO (base : Nat) (w : World) (v : Value) : Prop := ∃ b', v = .slice (some ⟨b', 0, none⟩) 0 0 ∧ base ≤ b' ∧ w.heap[b']? = some (.cells #[] 5 (0, 0))
theorem EmptyO.on {base : Nat} (w w' : World) (v : Value) (hb : Below w.heap.size w w') (h : EmptyO base w v) : EmptyO base w' v := by
  obtain ⟨b', e, l, r⟩ := h
  exact ⟨b', e, l, (hb.block b' (Array.getElem?_eq_some_iff.1 r).1).trans r⟩
def OwnB (b L : Nat) (ds : List UInt8) (w : World) (v : Value) : Prop := ∃ A c, v = .slice A L c ∧ w.ownsRow b 5 1 (.slice A L c) L (cellsOf ds)
theorem OwnB.on {b L : Nat} {ds : List UInt8} (w w' : World) (v : Value) (hb : Below w.heap.size w w') (h : OwnB b L ds w v) : OwnB b L ds w' v := by
  obtain ⟨A, c, e, o⟩ := h
  exact ⟨A, c, e, own_below o hb⟩
set_option maxHeartbeats 4000000 in
theorem icmpOfC (w : World) (g : Nat) (a : Addr) (n c : Nat) (bs : List UInt8) (l : Nat) (ty code sm rest : Nat) (h : Rp w g (some a) n c bs 0) (hl : 8 + l = n) (e0 : num bs 0 1 = ty) (e1 : num bs 1 1 = code) (e2 : num bs 2 2 = sm) (e3 : num bs 4 4 = rest) : Calls Try.prog 90 #[.pointer (some ⟨g, 0, none⟩)] w fun e w' => ∃ D d, e = .returned (.tuple #[.agg #[.int .i64 3, .int .i64 0, .int .i64 0, .int .i64 0, .int .i64 0, .int .i64 0, .int .i64 0, .int .i64 0, .int .i64 (ty : Int), .int .i64 (code : Int), .int .i64 (rest : Int), .bool false, .slice none 0 0, .slice D l d], .int .i64 (sm : Int)]) ∧ w'.ownsRow w.heap.size 5 1 (.slice D l d) l (cellsOf (bs.drop 8)) ∧ w.grownBy w' (some g) := by
  have hg := h.lt
  have R0 := Lib.hid h
  have HD := Lib.hid (show (bs.drop 8).take l = bs.drop 8 by rw [List.take_of_length_le]; rw [List.length_drop, h.len]; omega)
  have E0 := Lib.hid e0
  have E1 := Lib.hid e1
  have E2 := Lib.hid e2
  have E3 := Lib.hid e3
  clear h e0 e1 e2 e3
  have p0 : Hid (((w.alloc (.cells #[.int .i64 0, .int .i64 0, .int .i64 0, .int .i64 0, .int .i64 0, .int .i64 0, .int .i64 0, .int .i64 0, .int .i64 0, .int .i64 0, .int .i64 0, .bool false, .slice none 0 0, .slice none 0 0] 36)).alloc (.cells #[.int .i64 0, .int .i64 0, .int .i64 0, .int .i64 0, .int .i64 0, .int .i64 0, .int .i64 0, .int .i64 0, .int .i64 0, .int .i64 0, .int .i64 0, .bool false, .slice none 0 0, .slice none 0 0] 36)).heap[w.heap.size + 1]? = some (.cells #[.int .i64 0, .int .i64 0, .int .i64 0, .int .i64 0, .int .i64 0, .int .i64 0, .int .i64 0, .int .i64 0, .int .i64 0, .int .i64 0, .int .i64 0, .bool false, .slice none 0 0, .slice none 0 0] 36)) := Lib.hid (K.newAt (by simp))
  have p1 : Hid (((w.alloc (.cells #[.int .i64 0, .int .i64 0, .int .i64 0, .int .i64 0, .int .i64 0, .int .i64 0, .int .i64 0, .int .i64 0, .int .i64 0, .int .i64 0, .int .i64 0, .bool false, .slice none 0 0, .slice none 0 0] 36)).alloc (.cells #[.int .i64 0, .int .i64 0, .int .i64 0, .int .i64 0, .int .i64 0, .int .i64 0, .int .i64 0, .int .i64 0, .int .i64 0, .int .i64 0, .int .i64 0, .bool false, .slice none 0 0, .slice none 0 0] 36)).heap[w.heap.size]? = some (.cells #[.int .i64 0, .int .i64 0, .int .i64 0, .int .i64 0, .int .i64 0, .int .i64 0, .int .i64 0, .int .i64 0, .int .i64 0, .int .i64 0, .int .i64 0, .bool false, .slice none 0 0, .slice none 0 0] 36)) := Lib.hid (K.old (K.new w _) _)
  have q0 : Hid ((((w.alloc (.cells #[.int .i64 0, .int .i64 0, .int .i64 0, .int .i64 0, .int .i64 0, .int .i64 0, .int .i64 0, .int .i64 0, .int .i64 0, .int .i64 0, .int .i64 0, .bool false, .slice none 0 0, .slice none 0 0] 36)).alloc (.cells #[.int .i64 0, .int .i64 0, .int .i64 0, .int .i64 0, .int .i64 0, .int .i64 0, .int .i64 0, .int .i64 0, .int .i64 0, .int .i64 0, .int .i64 0, .bool false, .slice none 0 0, .slice none 0 0] 36)).setRow (w.heap.size + 1) #[.int .i64 3, .int .i64 0, .int .i64 0, .int .i64 0, .int .i64 0, .int .i64 0, .int .i64 0, .int .i64 0, .int .i64 0, .int .i64 0, .int .i64 0, .bool false, .slice none 0 0, .slice none 0 0]).heap[w.heap.size + 1]? = some (.cells #[.int .i64 3, .int .i64 0, .int .i64 0, .int .i64 0, .int .i64 0, .int .i64 0, .int .i64 0, .int .i64 0, .int .i64 0, .int .i64 0, .int .i64 0, .bool false, .slice none 0 0, .slice none 0 0] 36 (0, 0))) := Lib.hid (setRow_heap _ _ _ _ _ _ p0.out)
  have z0 : Hid ((((w.alloc (.cells #[.int .i64 0, .int .i64 0, .int .i64 0, .int .i64 0, .int .i64 0, .int .i64 0, .int .i64 0, .int .i64 0, .int .i64 0, .int .i64 0, .int .i64 0, .bool false, .slice none 0 0, .slice none 0 0] 36)).alloc (.cells #[.int .i64 0, .int .i64 0, .int .i64 0, .int .i64 0, .int .i64 0, .int .i64 0, .int .i64 0, .int .i64 0, .int .i64 0, .int .i64 0, .int .i64 0, .bool false, .slice none 0 0, .slice none 0 0] 36)).setRow (w.heap.size + 1) #[.int .i64 3, .int .i64 0, .int .i64 0, .int .i64 0, .int .i64 0, .int .i64 0, .int .i64 0, .int .i64 0, .int .i64 0, .int .i64 0, .int .i64 0, .bool false, .slice none 0 0, .slice none 0 0]).heap[w.heap.size]? = some (.cells #[.int .i64 0, .int .i64 0, .int .i64 0, .int .i64 0, .int .i64 0, .int .i64 0, .int .i64 0, .int .i64 0, .int .i64 0, .int .i64 0, .int .i64 0, .bool false, .slice none 0 0, .slice none 0 0] 36 (0, 0))) := Lib.hid (by rw [setRow_other _ _ _ _ (by omega)]; exact p1.out)
  have G0 : Hid (w.grownBy (((w.alloc (.cells #[.int .i64 0, .int .i64 0, .int .i64 0, .int .i64 0, .int .i64 0, .int .i64 0, .int .i64 0, .int .i64 0, .int .i64 0, .int .i64 0, .int .i64 0, .bool false, .slice none 0 0, .slice none 0 0] 36)).alloc (.cells #[.int .i64 0, .int .i64 0, .int .i64 0, .int .i64 0, .int .i64 0, .int .i64 0, .int .i64 0, .int .i64 0, .int .i64 0, .int .i64 0, .int .i64 0, .bool false, .slice none 0 0, .slice none 0 0] 36)).setRow (w.heap.size + 1) #[.int .i64 3, .int .i64 0, .int .i64 0, .int .i64 0, .int .i64 0, .int .i64 0, .int .i64 0, .int .i64 0, .int .i64 0, .int .i64 0, .int .i64 0, .bool false, .slice none 0 0, .slice none 0 0]) (some g)) := Lib.hid (grown_other (only_new (only_new (K.refl w _) _) _) (K.setRow_grown _ _ _) (fun u hu => by cases hu; omega))
  have r0 : Hid (Rp (((w.alloc (.cells #[.int .i64 0, .int .i64 0, .int .i64 0, .int .i64 0, .int .i64 0, .int .i64 0, .int .i64 0, .int .i64 0, .int .i64 0, .int .i64 0, .int .i64 0, .bool false, .slice none 0 0, .slice none 0 0] 36)).alloc (.cells #[.int .i64 0, .int .i64 0, .int .i64 0, .int .i64 0, .int .i64 0, .int .i64 0, .int .i64 0, .int .i64 0, .int .i64 0, .int .i64 0, .int .i64 0, .bool false, .slice none 0 0, .slice none 0 0] 36)).setRow (w.heap.size + 1) #[.int .i64 3, .int .i64 0, .int .i64 0, .int .i64 0, .int .i64 0, .int .i64 0, .int .i64 0, .int .i64 0, .int .i64 0, .int .i64 0, .int .i64 0, .bool false, .slice none 0 0, .slice none 0 0]) g (some a) n c bs 0) := Lib.hid ((R0.out.below (Joins.below_alloc2 w _ _)).away (K.setRow_grown _ _ _) (fun u hu => by cases hu; omega))
  go_enter Try.func90, Try.ntmps90
  go_wp2_with (with_reducible refine storeU rfl _ _ rfl (w.heap.size + 1) rfl rfl p0.out ?_)
  clear p0 p1 R0
  generalize ((w.alloc (.cells #[.int .i64 0, .int .i64 0, .int .i64 0, .int .i64 0, .int .i64 0, .int .i64 0, .int .i64 0, .int .i64 0, .int .i64 0, .int .i64 0, .int .i64 0, .bool false, .slice none 0 0, .slice none 0 0] 36)).alloc (.cells #[.int .i64 0, .int .i64 0, .int .i64 0, .int .i64 0, .int .i64 0, .int .i64 0, .int .i64 0, .int .i64 0, .int .i64 0, .int .i64 0, .int .i64 0, .bool false, .slice none 0 0, .slice none 0 0] 36)).setRow (w.heap.size + 1) #[.int .i64 3, .int .i64 0, .int .i64 0, .int .i64 0, .int .i64 0, .int .i64 0, .int .i64 0, .int .i64 0, .int .i64 0, .int .i64 0, .int .i64 0, .bool false, .slice none 0 0, .slice none 0 0] = v0 at q0 z0 G0 r0 ⊢
  refine Calls.mono (numberP _ g (some a) n c bs 0 1 ty E0.out r0.out (by omega) (by omega) (by omega)) ?_
  rintro e v1 ⟨rfl, rr, gg⟩
  have q1_ := Lib.hid (K.kept gg q0.out (fun u hu => by cases hu; omega))
  have z1_ := Lib.hid (K.kept gg z0.out (fun u hu => by cases hu; omega))
  have G1_ := Lib.hid (grownBy_trans G0.out gg)
  have r1_ := Lib.hid rr
  clear rr gg q0 z0 G0 r0
  have uu := K.cell q1_.out 8 _ rfl
  have yy := frozen_of_row _ _ 8 _ _ q1_.out
  have q1 : Hid ((v1.setCell ⟨w.heap.size + 1, 8, none⟩ (.int .i64 (ty : Int))).heap[w.heap.size + 1]? = some (.cells #[.int .i64 3, .int .i64 0, .int .i64 0, .int .i64 0, .int .i64 0, .int .i64 0, .int .i64 0, .int .i64 0, .int .i64 (ty : Int), .int .i64 0, .int .i64 0, .bool false, .slice none 0 0, .slice none 0 0] 36 (0, 0))) := Lib.hid (K.set q1_.out 8 _)
  have z1 := Lib.hid (K.other z1_.out (w.heap.size + 1) 8 (.int .i64 (ty : Int)) (by omega))
  have G1 := Lib.hid (grown_other G1_.out (grownBy_set v1 (w.heap.size + 1) 8 (.int .i64 (ty : Int))) (fun u hu => by cases hu; omega))
  have r1 := Lib.hid (r1_.out.away (grownBy_set v1 (w.heap.size + 1) 8 (.int .i64 (ty : Int))) (fun u hu => by cases hu; omega))
  go_wp2_with fail
  clear uu yy q1_ z1_ G1_ r1_
  generalize (v1.setCell ⟨w.heap.size + 1, 8, none⟩ (.int .i64 (ty : Int))) = u1 at q1 z1 G1 r1 ⊢
  refine Calls.mono (numberP _ g (some a) n c bs 1 1 code E1.out r1.out (by omega) (by omega) (by omega)) ?_
  rintro e v2 ⟨rfl, rr, gg⟩
  have q2_ := Lib.hid (K.kept gg q1.out (fun u hu => by cases hu; omega))
  have z2_ := Lib.hid (K.kept gg z1.out (fun u hu => by cases hu; omega))
  have G2_ := Lib.hid (grownBy_trans G1.out gg)
  have r2_ := Lib.hid rr
  clear rr gg q1 z1 G1 r1
  have uu := K.cell q2_.out 9 _ rfl
  have yy := frozen_of_row _ _ 9 _ _ q2_.out
  have q2 : Hid ((v2.setCell ⟨w.heap.size + 1, 9, none⟩ (.int .i64 (code : Int))).heap[w.heap.size + 1]? = some (.cells #[.int .i64 3, .int .i64 0, .int .i64 0, .int .i64 0, .int .i64 0, .int .i64 0, .int .i64 0, .int .i64 0, .int .i64 (ty : Int), .int .i64 (code : Int), .int .i64 0, .bool false, .slice none 0 0, .slice none 0 0] 36 (0, 0))) := Lib.hid (K.set q2_.out 9 _)
  have z2 := Lib.hid (K.other z2_.out (w.heap.size + 1) 9 (.int .i64 (code : Int)) (by omega))
  have G2 := Lib.hid (grown_other G2_.out (grownBy_set v2 (w.heap.size + 1) 9 (.int .i64 (code : Int))) (fun u hu => by cases hu; omega))
  have r2 := Lib.hid (r2_.out.away (grownBy_set v2 (w.heap.size + 1) 9 (.int .i64 (code : Int))) (fun u hu => by cases hu; omega))
  go_wp2_with fail
  clear uu yy q2_ z2_ G2_ r2_
  generalize (v2.setCell ⟨w.heap.size + 1, 9, none⟩ (.int .i64 (code : Int))) = u2 at q2 z2 G2 r2 ⊢
  refine Calls.mono (numberP _ g (some a) n c bs 2 2 sm E2.out r2.out (by omega) (by omega) (by omega)) ?_
  rintro e v3 ⟨rfl, rr, gg⟩
  have q3_ := Lib.hid (K.kept gg q2.out (fun u hu => by cases hu; omega))
  have z3_ := Lib.hid (K.kept gg z2.out (fun u hu => by cases hu; omega))
  have G3_ := Lib.hid (grownBy_trans G2.out gg)
  have r3_ := Lib.hid rr
  clear rr gg q2 z2 G2 r2
  have q3 := q3_
  have z3 := z3_
  have G3 := G3_
  have r3 := r3_
  clear q3_ z3_ G3_ r3_
  go_wp2_with fail
  refine Calls.mono (numberP _ g (some a) n c bs 4 4 rest E3.out r3.out (by omega) (by omega) (by omega)) ?_
  rintro e v4 ⟨rfl, rr, gg⟩
  have q4_ := Lib.hid (K.kept gg q3.out (fun u hu => by cases hu; omega))
  have z4_ := Lib.hid (K.kept gg z3.out (fun u hu => by cases hu; omega))
  have G4_ := Lib.hid (grownBy_trans G3.out gg)
  have r4_ := Lib.hid rr
  clear rr gg q3 z3 G3 r3
  have uu := K.cell q4_.out 10 _ rfl
  have yy := frozen_of_row _ _ 10 _ _ q4_.out
  have q4 : Hid ((v4.setCell ⟨w.heap.size + 1, 10, none⟩ (.int .i64 (rest : Int))).heap[w.heap.size + 1]? = some (.cells #[.int .i64 3, .int .i64 0, .int .i64 0, .int .i64 0, .int .i64 0, .int .i64 0, .int .i64 0, .int .i64 0, .int .i64 (ty : Int), .int .i64 (code : Int), .int .i64 (rest : Int), .bool false, .slice none 0 0, .slice none 0 0] 36 (0, 0))) := Lib.hid (K.set q4_.out 10 _)
  have z4 := Lib.hid (K.other z4_.out (w.heap.size + 1) 10 (.int .i64 (rest : Int)) (by omega))
  have G4 := Lib.hid (grown_other G4_.out (grownBy_set v4 (w.heap.size + 1) 10 (.int .i64 (rest : Int))) (fun u hu => by cases hu; omega))
  have r4 := Lib.hid (r4_.out.away (grownBy_set v4 (w.heap.size + 1) 10 (.int .i64 (rest : Int))) (fun u hu => by cases hu; omega))
  go_wp2_with fail
  clear uu yy q4_ z4_ G4_ r4_
  generalize (v4.setCell ⟨w.heap.size + 1, 10, none⟩ (.int .i64 (rest : Int))) = u4 at q4 z4 G4 r4 ⊢
  refine wp_region_grow (w := u4) (some g) (by kernel_rfl) 9 37 [(0, 26), (1, 27), (2, 28), (3, 29), (4, 30), (5, 31), (6, 32), (7, 33), (8, 34)] _ ([.val (.pointer (some ⟨g, 0, none⟩)), .val (.pointer (some ⟨g, 0, none⟩)), .val (.pointer (some ⟨g, 0, none⟩)), .val (.pointer (some ⟨g, 0, none⟩)), .val (.pointer (some ⟨g, 0, none⟩)), .val (.pointer (some ⟨g, 0, none⟩)), .val (.int .i64 (l : Int)), .any, .val (.pointer (some ⟨w.heap.size + 1, 13, none⟩))]) (by kernel_rfl) (by kernel_rfl) rfl 7 33 (by omega) (by decide) rfl (fun b' v => w.grownBy v (some g) ∧ v.heap[w.heap.size + 1]? = some (.cells #[.int .i64 3, .int .i64 0, .int .i64 0, .int .i64 0, .int .i64 0, .int .i64 0, .int .i64 0, .int .i64 0, .int .i64 (ty : Int), .int .i64 (code : Int), .int .i64 (rest : Int), .bool false, .slice none 0 0, .slice none 0 0] 36 (0, 0)) ∧ v.heap[w.heap.size]? = some (.cells #[.int .i64 0, .int .i64 0, .int .i64 0, .int .i64 0, .int .i64 0, .int .i64 0, .int .i64 0, .int .i64 0, .int .i64 0, .int .i64 0, .int .i64 0, .bool false, .slice none 0 0, .slice none 0 0] 36 (0, 0)) ∧ u4.heap.size ≤ v.heap.size ∧ (b' = false → Rp v g (some a) n c bs 8)) (fun b' v v' hb h => ⟨grownBy_trans h.1 (below_grown hb _), K.below hb h.2.1, K.below hb h.2.2.1, Nat.le_trans h.2.2.2.1 hb.size, fun e => (h.2.2.2.2 e).below hb⟩) ⟨⟨G4.out.os, G4.out.tape, G4.out.output, G4.out.size, G4.out.block⟩, q4.out, z4.out, Nat.le_refl _, fun _ => ⟨r4.out.blk, r4.out.rb, r4.out.len, r4.out.small, r4.out.cap⟩⟩ (OwnB u4.heap.size l (bs.drop 8)) (fun v v' u hb h => OwnB.on v v' u hb h) ?_ ?_ ?_
  · intro j o hj hjp ho b' a' v K' hbt hx hnd hJJ hK
    match j, hj, hjp, ho with
    | 0, _, _, ho =>
      obtain rfl := Option.some.inj ho
      have h0 : a'.eval (.tmp 0) = .pointer (some ⟨g, 0, none⟩) := (hx 0 (by decide)).trans rfl
      exact u_move _ _ rfl h0 (hK _ _ rfl (Below.refl _ _))
    | 1, _, _, ho =>
      obtain rfl := Option.some.inj ho
      have h0 : a'.eval (.tmp 26) = .pointer (some ⟨g, 0, none⟩) := (grow_of hnd 0 26 (by kernel_rfl) (by decide) :)
      exact t_nil _ _ rfl h0 (hK _ _ rfl (Below.refl _ _))
    | 2, _, _, ho =>
      obtain rfl := Option.some.inj ho
      have h0 : a'.eval (.tmp 27) = .pointer (some ⟨g, 0, none⟩) := (grow_of hnd 1 27 (by kernel_rfl) (by decide) :)
      exact t_fldR _ _ rfl h0 (hK _ _ rfl (Below.refl _ _))
    | 3, _, _, ho =>
      obtain rfl := Option.some.inj ho
      have h0 : a'.eval (.tmp 0) = .pointer (some ⟨g, 0, none⟩) := (hx 0 (by decide)).trans rfl
      exact u_move _ _ rfl h0 (hK _ _ rfl (Below.refl _ _))
    | 4, _, _, ho =>
      obtain rfl := Option.some.inj ho
      have h0 : a'.eval (.tmp 29) = .pointer (some ⟨g, 0, none⟩) := (grow_of hnd 3 29 (by kernel_rfl) (by decide) :)
      exact t_nil _ _ rfl h0 (hK _ _ rfl (Below.refl _ _))
    | 5, _, _, ho =>
      obtain rfl := Option.some.inj ho
      have h0 : a'.eval (.tmp 30) = .pointer (some ⟨g, 0, none⟩) := (grow_of hnd 4 30 (by kernel_rfl) (by decide) :)
      exact t_fldR _ _ rfl h0 (hK _ _ rfl (Below.refl _ _))
    | 6, _, _, ho =>
      obtain rfl := Option.some.inj ho
      have h0 : a'.eval (.tmp 31) = .pointer (some ⟨g, 0, none⟩) := (grow_of hnd 5 31 (by kernel_rfl) (by decide) :)
      cases b' with
      | false =>
        refine t_left _ _ _ rfl h0 (Calls.mono (leftP v g (some a) n c bs 8 l (hJJ.2.2.2.2 rfl) (by omega)) ?_)
        rintro e' v' ⟨rfl, b6⟩
        exact ⟨_, rfl, hK _ _ rfl b6⟩
      | true =>
        exact absurd (hbt (by kernel_rfl)) (by simp)
    | 7, _, hjp, _ => exact absurd rfl hjp
    | 8, _, _, ho =>
      obtain rfl := Option.some.inj ho
      have h0 : a'.eval (.tmp 4) = .pointer (some ⟨w.heap.size + 1, 0, none⟩) := (hx 4 (by decide)).trans rfl
      exact u_fldU13 _ _ rfl h0 (hK _ _ rfl (Below.refl _ _))
    | j + 9, hj, _, _ => omega
  · intro o ho a' v K' hx hnd hJJ hK
    obtain rfl := Option.some.inj ho
    have h0 : a'.eval (.tmp 28) = .pointer (some ⟨g, 0, none⟩) := (grow_of hnd 2 28 (by kernel_rfl) (by decide) :)
    have h1 : a'.eval (.tmp 32) = .int .i64 (l : Int) := (grow_of hnd 6 32 (by kernel_rfl) (by decide) :)
    refine t_take _ _ _ _ _ rfl h0 h1 (Calls.mono (takeP v g a n c bs 8 l (hJJ.2.2.2.2 rfl) (by omega)) ?_)
    rintro e' v' ⟨E', k', rfl, o8, r8, g8⟩
    rw [HD.out] at o8
    exact ⟨_, rfl, hK _ _ ⟨E', k', rfl, own_base o8 hJJ.2.2.2.1⟩ g8 ⟨grownBy_trans hJJ.1 g8, K.kept g8 hJJ.2.1 (fun u hu => by cases hu; omega), K.kept g8 hJJ.2.2.1 (fun u hu => by cases hu; omega), Nat.le_trans hJJ.2.2.2.1 g8.size, fun e => by cases e⟩⟩
  · intro f v hf OG hJJ
    have e0 : f 0 = (.pointer (some ⟨g, 0, none⟩)) := hf (0, 26) (by decide) (by decide)
    have e1 : f 1 = (.pointer (some ⟨g, 0, none⟩)) := hf (1, 27) (by decide) (by decide)
    have e2 : f 2 = (.pointer (some ⟨g, 0, none⟩)) := hf (2, 28) (by decide) (by decide)
    have e3 : f 3 = (.pointer (some ⟨g, 0, none⟩)) := hf (3, 29) (by decide) (by decide)
    have e4 : f 4 = (.pointer (some ⟨g, 0, none⟩)) := hf (4, 30) (by decide) (by decide)
    have e5 : f 5 = (.pointer (some ⟨g, 0, none⟩)) := hf (5, 31) (by decide) (by decide)
    have e6 : f 6 = (.int .i64 (l : Int)) := hf (6, 32) (by decide) (by decide)
    have e8 : f 8 = (.pointer (some ⟨w.heap.size + 1, 13, none⟩)) := hf (8, 34) (by decide) (by decide)
    simp only [List.foldl_cons, List.foldl_nil, List.drop_succ_cons, List.drop_zero, e0, e1, e2, e3, e4, e5, e6, e8]
    clear e0 e1 e2 e3 e4 e5 e6 e8 hf
    go_simp
    obtain ⟨D, d, e9, oD⟩ := OG
    rw [e9]
    clear e9
    obtain ⟨j1, j2, j3, j4, _⟩ := hJJ
    have lz : w.heap.size + 1 < u4.heap.size := K.lt q4.out
    have u13 := K.cell j2 13 _ rfl
    have y13 := frozen_of_row _ _ 13 _ _ j2
    have q9 : Hid ((v.setCell ⟨w.heap.size + 1, 13, none⟩ (.slice D l d)).heap[w.heap.size + 1]? = some (.cells #[.int .i64 3, .int .i64 0, .int .i64 0, .int .i64 0, .int .i64 0, .int .i64 0, .int .i64 0, .int .i64 0, .int .i64 (ty : Int), .int .i64 (code : Int), .int .i64 (rest : Int), .bool false, .slice none 0 0, .slice D l d] 36 (0, 0))) := Lib.hid (K.set j2 13 _)
    have z9 := Lib.hid (K.other j3 (w.heap.size + 1) 13 (.slice D l d) (by omega))
    have O9 := Lib.hid (own_set oD (w.heap.size + 1) 13 (.slice D l d) (by omega))
    have G9 := Lib.hid (grown_other j1 (grownBy_set v (w.heap.size + 1) 13 (.slice D l d)) (fun u hu => by cases hu; omega))
    clear j1 j2 j3 j4 oD
    go_wp2_with (first | (with_reducible refine loadU rfl _ rfl (w.heap.size + 1) rfl q9.out ?_) | (with_reducible refine storeU rfl _ _ rfl w.heap.size rfl rfl z9.out ?_))
    (try simp only [Exit.inBlock, Exit.then])
    refine bodyPost_ret (v := .tuple #[.agg #[.int .i64 3, .int .i64 0, .int .i64 0, .int .i64 0, .int .i64 0, .int .i64 0, .int .i64 0, .int .i64 0, .int .i64 (ty : Int), .int .i64 (code : Int), .int .i64 (rest : Int), .bool false, .slice none 0 0, .slice D l d], .int .i64 (sm : Int)]) ?_ rfl ⟨D, d, rfl, own_base (K.setRow_own _ O9.out (by omega)) (by omega), grown_other G9.out (K.setRow_grown _ _ _) (fun u hu => by cases hu; omega)⟩
    exact K.resCellTmp Try.results90 _ _ _ w.heap.size _ rfl (run_loadVar_row _ _ 36 36 _ (0, 0) _ (setRow_heap _ _ _ _ _ _ z9.out) Try.underlying36 rfl info_up)
set_option maxHeartbeats 4000000 in
theorem tcpOf_no (w : World) (g : Nat) (a : Addr) (n c : Nat) (bs : List UInt8) (sport dport seq ack mx hd : Nat) (h : Rp w g (some a) n c bs 0) (hn : 20 ≤ n) (e0 : num bs 0 2 = sport) (e1 : num bs 2 2 = dport) (e2 : num bs 4 4 = seq) (e3 : num bs 8 4 = ack) (e4 : num bs 12 2 = mx) (ed : 4 * (mx / 4096) = hd) (hh : hd < 20 ∨ n < hd) : Calls Try.prog 88 #[.pointer (some ⟨g, 0, none⟩)] w fun e w' => e = .returned (.tuple #[.agg #[.int .i64 0, .int .i64 0, .int .i64 0, .int .i64 0, .int .i64 0, .int .i64 0, .int .i64 0, .int .i64 0, .int .i64 0, .int .i64 0, .int .i64 0, .bool false, .slice none 0 0, .slice none 0 0], .int .i64 0, .int .i64 4]) ∧ w.grownBy w' (some g) := by
  have hg := h.lt
  have hsm := h.small
  have HLN := Lib.hid h.len
  have r0 := Lib.hid (h.below (Joins.below_alloc1 w (.cells #[.int .i64 0, .int .i64 0, .int .i64 0, .int .i64 0, .int .i64 0, .int .i64 0, .int .i64 0, .int .i64 0, .int .i64 0, .int .i64 0, .int .i64 0, .bool false, .slice none 0 0, .slice none 0 0] 36)))
  have z0 := Lib.hid (K.new w (.cells #[.int .i64 0, .int .i64 0, .int .i64 0, .int .i64 0, .int .i64 0, .int .i64 0, .int .i64 0, .int .i64 0, .int .i64 0, .int .i64 0, .int .i64 0, .bool false, .slice none 0 0, .slice none 0 0] 36))
  have G0 := Lib.hid (show w.grownBy (w.alloc (.cells #[.int .i64 0, .int .i64 0, .int .i64 0, .int .i64 0, .int .i64 0, .int .i64 0, .int .i64 0, .int .i64 0, .int .i64 0, .int .i64 0, .int .i64 0, .bool false, .slice none 0 0, .slice none 0 0] 36)) (some g) from only_new (K.refl w _) _)
  clear h
  have hmx : mx < 65536 := by rw [← e4]; exact num_lt2 bs 12
  obtain ⟨wq, hwq⟩ : ∃ q : Nat, (mx : Int) / 4096 = q := ⟨mx / 4096, by omega⟩
  have hwd : IntKind.i64.wrap (4 * (wq : Int)) = (hd : Int) := by rw [IntKind.wrap_i64]; omega
  have hwd2 : 4 * (wq : Int) = (hd : Int) := by omega
  have HWQ := Lib.hid hwq
  clear hwq
  have E0 := Lib.hid e0
  clear e0
  have E1 := Lib.hid e1
  clear e1
  have E2 := Lib.hid e2
  clear e2
  have E3 := Lib.hid e3
  clear e3
  have E4 := Lib.hid e4
  clear e4
  go_enter Try.func88, Try.ntmps88
  go_wp2_with fail
  refine Calls.mono (leftP _ g (some a) n c bs 0 n r0.out (by omega)) ?_
  rintro e v0 ⟨rfl, bb⟩
  have ra := Lib.hid (r0.out.below bb)
  have za := Lib.hid (K.below bb z0.out)
  have Ga := Lib.hid (grownBy_trans G0.out (below_grown bb _))
  clear bb r0 z0 G0
  have hzb : w.heap.size < v0.heap.size := K.lt za.out
  have q0 : Hid ((v0.alloc (.cells #[.int .i64 1, .int .i64 0, .int .i64 0, .int .i64 0, .int .i64 0, .int .i64 0, .int .i64 0, .int .i64 0, .int .i64 0, .int .i64 0, .int .i64 0, .bool false, .slice none 0 0, .slice none 0 0] 36)).heap[v0.heap.size]? = some (.cells #[.int .i64 1, .int .i64 0, .int .i64 0, .int .i64 0, .int .i64 0, .int .i64 0, .int .i64 0, .int .i64 0, .int .i64 0, .int .i64 0, .int .i64 0, .bool false, .slice none 0 0, .slice none 0 0] 36 (0, 0))) := Lib.hid (K.new v0 _)
  have z0 := Lib.hid (K.old za.out (.cells #[.int .i64 1, .int .i64 0, .int .i64 0, .int .i64 0, .int .i64 0, .int .i64 0, .int .i64 0, .int .i64 0, .int .i64 0, .int .i64 0, .int .i64 0, .bool false, .slice none 0 0, .slice none 0 0] 36))
  have G0 := Lib.hid (only_new Ga.out (.cells #[.int .i64 1, .int .i64 0, .int .i64 0, .int .i64 0, .int .i64 0, .int .i64 0, .int .i64 0, .int .i64 0, .int .i64 0, .int .i64 0, .int .i64 0, .bool false, .slice none 0 0, .slice none 0 0] 36))
  have r0 := Lib.hid (ra.out.below (Joins.below_alloc1 v0 (.cells #[.int .i64 1, .int .i64 0, .int .i64 0, .int .i64 0, .int .i64 0, .int .i64 0, .int .i64 0, .int .i64 0, .int .i64 0, .int .i64 0, .int .i64 0, .bool false, .slice none 0 0, .slice none 0 0] 36)))
  go_wp2_with (with_reducible refine storeNewU rfl _ _ rfl rfl rfl ?_)
  clear za Ga ra
  generalize (v0.alloc (.cells #[.int .i64 1, .int .i64 0, .int .i64 0, .int .i64 0, .int .i64 0, .int .i64 0, .int .i64 0, .int .i64 0, .int .i64 0, .int .i64 0, .int .i64 0, .bool false, .slice none 0 0, .slice none 0 0] 36)) = u0 at q0 z0 G0 r0 ⊢
  refine Calls.mono (numberP _ g (some a) n c bs 0 2 sport E0.out r0.out (by omega) (by omega) (by omega)) ?_
  rintro e v1 ⟨rfl, rr, gg⟩
  have q1_ := Lib.hid (K.kept gg q0.out (fun u hu => by cases hu; omega))
  have z1_ := Lib.hid (K.kept gg z0.out (fun u hu => by cases hu; omega))
  have G1_ := Lib.hid (grownBy_trans G0.out gg)
  have r1_ := Lib.hid rr
  clear rr gg q0 z0 G0 r0
  have uu := K.cell q1_.out 1 _ rfl
  have yy := frozen_of_row _ _ 1 _ _ q1_.out
  have q1 : Hid ((v1.setCell ⟨v0.heap.size, 1, none⟩ (.int .i64 (sport : Int))).heap[v0.heap.size]? = some (.cells #[.int .i64 1, .int .i64 (sport : Int), .int .i64 0, .int .i64 0, .int .i64 0, .int .i64 0, .int .i64 0, .int .i64 0, .int .i64 0, .int .i64 0, .int .i64 0, .bool false, .slice none 0 0, .slice none 0 0] 36 (0, 0))) := Lib.hid (K.set q1_.out 1 _)
  have z1 := Lib.hid (K.other z1_.out v0.heap.size 1 (.int .i64 (sport : Int)) (by omega))
  have G1 := Lib.hid (grown_other G1_.out (grownBy_set v1 v0.heap.size 1 (.int .i64 (sport : Int))) (fun u hu => by cases hu; omega))
  have r1 := Lib.hid (r1_.out.away (grownBy_set v1 v0.heap.size 1 (.int .i64 (sport : Int))) (fun u hu => by cases hu; omega))
  go_wp2_with fail
  clear uu yy q1_ z1_ G1_ r1_
  generalize (v1.setCell ⟨v0.heap.size, 1, none⟩ (.int .i64 (sport : Int))) = u1 at q1 z1 G1 r1 ⊢
  refine Calls.mono (numberP _ g (some a) n c bs 2 2 dport E1.out r1.out (by omega) (by omega) (by omega)) ?_
  rintro e v2 ⟨rfl, rr, gg⟩
  have q2_ := Lib.hid (K.kept gg q1.out (fun u hu => by cases hu; omega))
  have z2_ := Lib.hid (K.kept gg z1.out (fun u hu => by cases hu; omega))
  have G2_ := Lib.hid (grownBy_trans G1.out gg)
  have r2_ := Lib.hid rr
  clear rr gg q1 z1 G1 r1
  have uu := K.cell q2_.out 2 _ rfl
  have yy := frozen_of_row _ _ 2 _ _ q2_.out
  have q2 : Hid ((v2.setCell ⟨v0.heap.size, 2, none⟩ (.int .i64 (dport : Int))).heap[v0.heap.size]? = some (.cells #[.int .i64 1, .int .i64 (sport : Int), .int .i64 (dport : Int), .int .i64 0, .int .i64 0, .int .i64 0, .int .i64 0, .int .i64 0, .int .i64 0, .int .i64 0, .int .i64 0, .bool false, .slice none 0 0, .slice none 0 0] 36 (0, 0))) := Lib.hid (K.set q2_.out 2 _)
  have z2 := Lib.hid (K.other z2_.out v0.heap.size 2 (.int .i64 (dport : Int)) (by omega))
  have G2 := Lib.hid (grown_other G2_.out (grownBy_set v2 v0.heap.size 2 (.int .i64 (dport : Int))) (fun u hu => by cases hu; omega))
  have r2 := Lib.hid (r2_.out.away (grownBy_set v2 v0.heap.size 2 (.int .i64 (dport : Int))) (fun u hu => by cases hu; omega))
  go_wp2_with fail
  clear uu yy q2_ z2_ G2_ r2_
  generalize (v2.setCell ⟨v0.heap.size, 2, none⟩ (.int .i64 (dport : Int))) = u2 at q2 z2 G2 r2 ⊢
  refine Calls.mono (numberP _ g (some a) n c bs 4 4 seq E2.out r2.out (by omega) (by omega) (by omega)) ?_
  rintro e v3 ⟨rfl, rr, gg⟩
  have q3_ := Lib.hid (K.kept gg q2.out (fun u hu => by cases hu; omega))
  have z3_ := Lib.hid (K.kept gg z2.out (fun u hu => by cases hu; omega))
  have G3_ := Lib.hid (grownBy_trans G2.out gg)
  have r3_ := Lib.hid rr
  clear rr gg q2 z2 G2 r2
  have uu := K.cell q3_.out 3 _ rfl
  have yy := frozen_of_row _ _ 3 _ _ q3_.out
  have q3 : Hid ((v3.setCell ⟨v0.heap.size, 3, none⟩ (.int .i64 (seq : Int))).heap[v0.heap.size]? = some (.cells #[.int .i64 1, .int .i64 (sport : Int), .int .i64 (dport : Int), .int .i64 (seq : Int), .int .i64 0, .int .i64 0, .int .i64 0, .int .i64 0, .int .i64 0, .int .i64 0, .int .i64 0, .bool false, .slice none 0 0, .slice none 0 0] 36 (0, 0))) := Lib.hid (K.set q3_.out 3 _)
  have z3 := Lib.hid (K.other z3_.out v0.heap.size 3 (.int .i64 (seq : Int)) (by omega))
  have G3 := Lib.hid (grown_other G3_.out (grownBy_set v3 v0.heap.size 3 (.int .i64 (seq : Int))) (fun u hu => by cases hu; omega))
  have r3 := Lib.hid (r3_.out.away (grownBy_set v3 v0.heap.size 3 (.int .i64 (seq : Int))) (fun u hu => by cases hu; omega))
  go_wp2_with fail
  clear uu yy q3_ z3_ G3_ r3_
  generalize (v3.setCell ⟨v0.heap.size, 3, none⟩ (.int .i64 (seq : Int))) = u3 at q3 z3 G3 r3 ⊢
  refine Calls.mono (numberP _ g (some a) n c bs 8 4 ack E3.out r3.out (by omega) (by omega) (by omega)) ?_
  rintro e v4 ⟨rfl, rr, gg⟩
  have q4_ := Lib.hid (K.kept gg q3.out (fun u hu => by cases hu; omega))
  have z4_ := Lib.hid (K.kept gg z3.out (fun u hu => by cases hu; omega))
  have G4_ := Lib.hid (grownBy_trans G3.out gg)
  have r4_ := Lib.hid rr
  clear rr gg q3 z3 G3 r3
  have uu := K.cell q4_.out 4 _ rfl
  have yy := frozen_of_row _ _ 4 _ _ q4_.out
  have q4 : Hid ((v4.setCell ⟨v0.heap.size, 4, none⟩ (.int .i64 (ack : Int))).heap[v0.heap.size]? = some (.cells #[.int .i64 1, .int .i64 (sport : Int), .int .i64 (dport : Int), .int .i64 (seq : Int), .int .i64 (ack : Int), .int .i64 0, .int .i64 0, .int .i64 0, .int .i64 0, .int .i64 0, .int .i64 0, .bool false, .slice none 0 0, .slice none 0 0] 36 (0, 0))) := Lib.hid (K.set q4_.out 4 _)
  have z4 := Lib.hid (K.other z4_.out v0.heap.size 4 (.int .i64 (ack : Int)) (by omega))
  have G4 := Lib.hid (grown_other G4_.out (grownBy_set v4 v0.heap.size 4 (.int .i64 (ack : Int))) (fun u hu => by cases hu; omega))
  have r4 := Lib.hid (r4_.out.away (grownBy_set v4 v0.heap.size 4 (.int .i64 (ack : Int))) (fun u hu => by cases hu; omega))
  go_wp2_with fail
  clear uu yy q4_ z4_ G4_ r4_
  generalize (v4.setCell ⟨v0.heap.size, 4, none⟩ (.int .i64 (ack : Int))) = u4 at q4 z4 G4 r4 ⊢
  refine Calls.mono (splitP_12 _ g (some a) n c bs 12 2 mx E4.out (by omega) r4.out (by omega) (by omega) (by omega)) ?_
  rintro e v5 ⟨rfl, rr, gg⟩
  rw [HWQ.out]
  have q5_ := Lib.hid (K.kept gg q4.out (fun u hu => by cases hu; omega))
  have z5_ := Lib.hid (K.kept gg z4.out (fun u hu => by cases hu; omega))
  have G5_ := Lib.hid (grownBy_trans G4.out gg)
  have r5_ := Lib.hid rr
  clear rr gg q4 z4 G4 r4
  have q5 := q5_
  have z5 := z5_
  have G5 := G5_
  have r5 := r5_
  clear q5_ z5_ G5_ r5_
  go_wp2_with fail
  refine Calls.mono (within_no _ _ _ _ (by omega)) ?_
  rintro e vx ⟨rfl, rfl⟩
  go_wp2_with (with_reducible refine storeU rfl _ _ rfl w.heap.size rfl rfl z5.out ?_)
  (try simp only [Exit.inBlock, Exit.then])
  refine bodyPost_ret (v := .tuple #[.agg #[.int .i64 0, .int .i64 0, .int .i64 0, .int .i64 0, .int .i64 0, .int .i64 0, .int .i64 0, .int .i64 0, .int .i64 0, .int .i64 0, .int .i64 0, .bool false, .slice none 0 0, .slice none 0 0], .int .i64 0, .int .i64 4]) ?_ rfl ⟨rfl, grown_other G5.out (K.setRow_grown _ _ _) (fun u hu => by cases hu; exact Nat.le_refl _)⟩
  exact K.resCell3 Try.results88 _ _ _ w.heap.size _ rfl (run_loadVar_row _ _ 36 36 _ (0, 0) _ (setRow_heap _ _ _ _ _ _ z5.out) Try.underlying36 rfl info_up)
set_option maxHeartbeats 4000000 in
theorem tcpOf_yes (w : World) (g : Nat) (a : Addr) (n c : Nat) (bs : List UInt8) (l p : Nat) (sport dport seq ack mx hd window sm urgent : Nat) (h : Rp w g (some a) n c bs 0) (hn : 20 ≤ n) (e0 : num bs 0 2 = sport) (e1 : num bs 2 2 = dport) (e2 : num bs 4 4 = seq) (e3 : num bs 8 4 = ack) (e4 : num bs 12 2 = mx) (ed : 4 * (mx / 4096) = hd) (hp : 20 + p = hd) (hl : hd + l = n) (e5 : num bs 14 2 = window) (e6 : num bs 16 2 = sm) (e7 : num bs 18 2 = urgent) : Calls Try.prog 88 #[.pointer (some ⟨g, 0, none⟩)] w fun e w' => ∃ O o D d, e = .returned (.tuple #[.agg #[.int .i64 1, .int .i64 (sport : Int), .int .i64 (dport : Int), .int .i64 (seq : Int), .int .i64 (ack : Int), .int .i64 ((mx : Int) % 4096), .int .i64 (window : Int), .int .i64 (urgent : Int), .int .i64 0, .int .i64 0, .int .i64 0, .bool false, .slice O p o, .slice D l d], .int .i64 (sm : Int), .int .i64 0]) ∧ w'.ownsRow w.heap.size 5 1 (.slice O p o) p (cellsOf ((bs.drop 20).take p)) ∧ w'.ownsRow w.heap.size 5 1 (.slice D l d) l (cellsOf (bs.drop hd)) ∧ (∀ k, (Value.slice O p o).ownBlock = some k → (Value.slice D l d).ownBlock ≠ some k) ∧ w.grownBy w' (some g) := by
  have hg := h.lt
  have hsm := h.small
  have HLN := Lib.hid h.len
  have r0 := Lib.hid (h.below (Joins.below_alloc1 w (.cells #[.int .i64 0, .int .i64 0, .int .i64 0, .int .i64 0, .int .i64 0, .int .i64 0, .int .i64 0, .int .i64 0, .int .i64 0, .int .i64 0, .int .i64 0, .bool false, .slice none 0 0, .slice none 0 0] 36)))
  have z0 := Lib.hid (K.new w (.cells #[.int .i64 0, .int .i64 0, .int .i64 0, .int .i64 0, .int .i64 0, .int .i64 0, .int .i64 0, .int .i64 0, .int .i64 0, .int .i64 0, .int .i64 0, .bool false, .slice none 0 0, .slice none 0 0] 36))
  have G0 := Lib.hid (show w.grownBy (w.alloc (.cells #[.int .i64 0, .int .i64 0, .int .i64 0, .int .i64 0, .int .i64 0, .int .i64 0, .int .i64 0, .int .i64 0, .int .i64 0, .int .i64 0, .int .i64 0, .bool false, .slice none 0 0, .slice none 0 0] 36)) (some g) from only_new (K.refl w _) _)
  clear h
  have hmx : mx < 65536 := by rw [← e4]; exact num_lt2 bs 12
  obtain ⟨wq, hwq⟩ : ∃ q : Nat, (mx : Int) / 4096 = q := ⟨mx / 4096, by omega⟩
  have hwd : IntKind.i64.wrap (4 * (wq : Int)) = (hd : Int) := by rw [IntKind.wrap_i64]; omega
  have hwd2 : 4 * (wq : Int) = (hd : Int) := by omega
  have HWQ := Lib.hid hwq
  clear hwq
  have E0 := Lib.hid e0
  clear e0
  have E1 := Lib.hid e1
  clear e1
  have E2 := Lib.hid e2
  clear e2
  have E3 := Lib.hid e3
  clear e3
  have E4 := Lib.hid e4
  clear e4
  have E5 := Lib.hid e5
  clear e5
  have E6 := Lib.hid e6
  clear e6
  have E7 := Lib.hid e7
  clear e7
  have HD := Lib.hid (show (bs.drop hd).take l = bs.drop hd by rw [List.take_of_length_le]; rw [List.length_drop, HLN.out]; omega)
  have hp1 : IntKind.i64.wrap ((hd : Int) - 20) = (p : Int) := by rw [IntKind.wrap_i64]; omega
  have hp2 : (hd : Int) - 20 = (p : Int) := by omega
  have HP := Lib.hid hp
  clear hp
  go_enter Try.func88, Try.ntmps88
  go_wp2_with fail
  refine Calls.mono (leftP _ g (some a) n c bs 0 n r0.out (by omega)) ?_
  rintro e v0 ⟨rfl, bb⟩
  have ra := Lib.hid (r0.out.below bb)
  have za := Lib.hid (K.below bb z0.out)
  have Ga := Lib.hid (grownBy_trans G0.out (below_grown bb _))
  clear bb r0 z0 G0
  have hzb : w.heap.size < v0.heap.size := K.lt za.out
  have q0 : Hid ((v0.alloc (.cells #[.int .i64 1, .int .i64 0, .int .i64 0, .int .i64 0, .int .i64 0, .int .i64 0, .int .i64 0, .int .i64 0, .int .i64 0, .int .i64 0, .int .i64 0, .bool false, .slice none 0 0, .slice none 0 0] 36)).heap[v0.heap.size]? = some (.cells #[.int .i64 1, .int .i64 0, .int .i64 0, .int .i64 0, .int .i64 0, .int .i64 0, .int .i64 0, .int .i64 0, .int .i64 0, .int .i64 0, .int .i64 0, .bool false, .slice none 0 0, .slice none 0 0] 36 (0, 0))) := Lib.hid (K.new v0 _)
  have z0 := Lib.hid (K.old za.out (.cells #[.int .i64 1, .int .i64 0, .int .i64 0, .int .i64 0, .int .i64 0, .int .i64 0, .int .i64 0, .int .i64 0, .int .i64 0, .int .i64 0, .int .i64 0, .bool false, .slice none 0 0, .slice none 0 0] 36))
  have G0 := Lib.hid (only_new Ga.out (.cells #[.int .i64 1, .int .i64 0, .int .i64 0, .int .i64 0, .int .i64 0, .int .i64 0, .int .i64 0, .int .i64 0, .int .i64 0, .int .i64 0, .int .i64 0, .bool false, .slice none 0 0, .slice none 0 0] 36))
  have r0 := Lib.hid (ra.out.below (Joins.below_alloc1 v0 (.cells #[.int .i64 1, .int .i64 0, .int .i64 0, .int .i64 0, .int .i64 0, .int .i64 0, .int .i64 0, .int .i64 0, .int .i64 0, .int .i64 0, .int .i64 0, .bool false, .slice none 0 0, .slice none 0 0] 36)))
  go_wp2_with (with_reducible refine storeNewU rfl _ _ rfl rfl rfl ?_)
  clear za Ga ra
  generalize (v0.alloc (.cells #[.int .i64 1, .int .i64 0, .int .i64 0, .int .i64 0, .int .i64 0, .int .i64 0, .int .i64 0, .int .i64 0, .int .i64 0, .int .i64 0, .int .i64 0, .bool false, .slice none 0 0, .slice none 0 0] 36)) = u0 at q0 z0 G0 r0 ⊢
  refine Calls.mono (numberP _ g (some a) n c bs 0 2 sport E0.out r0.out (by omega) (by omega) (by omega)) ?_
  rintro e v1 ⟨rfl, rr, gg⟩
  have q1_ := Lib.hid (K.kept gg q0.out (fun u hu => by cases hu; omega))
  have z1_ := Lib.hid (K.kept gg z0.out (fun u hu => by cases hu; omega))
  have G1_ := Lib.hid (grownBy_trans G0.out gg)
  have r1_ := Lib.hid rr
  clear rr gg q0 z0 G0 r0
  have uu := K.cell q1_.out 1 _ rfl
  have yy := frozen_of_row _ _ 1 _ _ q1_.out
  have q1 : Hid ((v1.setCell ⟨v0.heap.size, 1, none⟩ (.int .i64 (sport : Int))).heap[v0.heap.size]? = some (.cells #[.int .i64 1, .int .i64 (sport : Int), .int .i64 0, .int .i64 0, .int .i64 0, .int .i64 0, .int .i64 0, .int .i64 0, .int .i64 0, .int .i64 0, .int .i64 0, .bool false, .slice none 0 0, .slice none 0 0] 36 (0, 0))) := Lib.hid (K.set q1_.out 1 _)
  have z1 := Lib.hid (K.other z1_.out v0.heap.size 1 (.int .i64 (sport : Int)) (by omega))
  have G1 := Lib.hid (grown_other G1_.out (grownBy_set v1 v0.heap.size 1 (.int .i64 (sport : Int))) (fun u hu => by cases hu; omega))
  have r1 := Lib.hid (r1_.out.away (grownBy_set v1 v0.heap.size 1 (.int .i64 (sport : Int))) (fun u hu => by cases hu; omega))
  go_wp2_with fail
  clear uu yy q1_ z1_ G1_ r1_
  generalize (v1.setCell ⟨v0.heap.size, 1, none⟩ (.int .i64 (sport : Int))) = u1 at q1 z1 G1 r1 ⊢
  refine Calls.mono (numberP _ g (some a) n c bs 2 2 dport E1.out r1.out (by omega) (by omega) (by omega)) ?_
  rintro e v2 ⟨rfl, rr, gg⟩
  have q2_ := Lib.hid (K.kept gg q1.out (fun u hu => by cases hu; omega))
  have z2_ := Lib.hid (K.kept gg z1.out (fun u hu => by cases hu; omega))
  have G2_ := Lib.hid (grownBy_trans G1.out gg)
  have r2_ := Lib.hid rr
  clear rr gg q1 z1 G1 r1
  have uu := K.cell q2_.out 2 _ rfl
  have yy := frozen_of_row _ _ 2 _ _ q2_.out
  have q2 : Hid ((v2.setCell ⟨v0.heap.size, 2, none⟩ (.int .i64 (dport : Int))).heap[v0.heap.size]? = some (.cells #[.int .i64 1, .int .i64 (sport : Int), .int .i64 (dport : Int), .int .i64 0, .int .i64 0, .int .i64 0, .int .i64 0, .int .i64 0, .int .i64 0, .int .i64 0, .int .i64 0, .bool false, .slice none 0 0, .slice none 0 0] 36 (0, 0))) := Lib.hid (K.set q2_.out 2 _)
  have z2 := Lib.hid (K.other z2_.out v0.heap.size 2 (.int .i64 (dport : Int)) (by omega))
  have G2 := Lib.hid (grown_other G2_.out (grownBy_set v2 v0.heap.size 2 (.int .i64 (dport : Int))) (fun u hu => by cases hu; omega))
  have r2 := Lib.hid (r2_.out.away (grownBy_set v2 v0.heap.size 2 (.int .i64 (dport : Int))) (fun u hu => by cases hu; omega))
  go_wp2_with fail
  clear uu yy q2_ z2_ G2_ r2_
  generalize (v2.setCell ⟨v0.heap.size, 2, none⟩ (.int .i64 (dport : Int))) = u2 at q2 z2 G2 r2 ⊢
  refine Calls.mono (numberP _ g (some a) n c bs 4 4 seq E2.out r2.out (by omega) (by omega) (by omega)) ?_
  rintro e v3 ⟨rfl, rr, gg⟩
  have q3_ := Lib.hid (K.kept gg q2.out (fun u hu => by cases hu; omega))
  have z3_ := Lib.hid (K.kept gg z2.out (fun u hu => by cases hu; omega))
  have G3_ := Lib.hid (grownBy_trans G2.out gg)
  have r3_ := Lib.hid rr
  clear rr gg q2 z2 G2 r2
  have uu := K.cell q3_.out 3 _ rfl
  have yy := frozen_of_row _ _ 3 _ _ q3_.out
  have q3 : Hid ((v3.setCell ⟨v0.heap.size, 3, none⟩ (.int .i64 (seq : Int))).heap[v0.heap.size]? = some (.cells #[.int .i64 1, .int .i64 (sport : Int), .int .i64 (dport : Int), .int .i64 (seq : Int), .int .i64 0, .int .i64 0, .int .i64 0, .int .i64 0, .int .i64 0, .int .i64 0, .int .i64 0, .bool false, .slice none 0 0, .slice none 0 0] 36 (0, 0))) := Lib.hid (K.set q3_.out 3 _)
  have z3 := Lib.hid (K.other z3_.out v0.heap.size 3 (.int .i64 (seq : Int)) (by omega))
  have G3 := Lib.hid (grown_other G3_.out (grownBy_set v3 v0.heap.size 3 (.int .i64 (seq : Int))) (fun u hu => by cases hu; omega))
  have r3 := Lib.hid (r3_.out.away (grownBy_set v3 v0.heap.size 3 (.int .i64 (seq : Int))) (fun u hu => by cases hu; omega))
  go_wp2_with fail
  clear uu yy q3_ z3_ G3_ r3_
  generalize (v3.setCell ⟨v0.heap.size, 3, none⟩ (.int .i64 (seq : Int))) = u3 at q3 z3 G3 r3 ⊢
  refine Calls.mono (numberP _ g (some a) n c bs 8 4 ack E3.out r3.out (by omega) (by omega) (by omega)) ?_
  rintro e v4 ⟨rfl, rr, gg⟩
  have q4_ := Lib.hid (K.kept gg q3.out (fun u hu => by cases hu; omega))
  have z4_ := Lib.hid (K.kept gg z3.out (fun u hu => by cases hu; omega))
  have G4_ := Lib.hid (grownBy_trans G3.out gg)
  have r4_ := Lib.hid rr
  clear rr gg q3 z3 G3 r3
  have uu := K.cell q4_.out 4 _ rfl
  have yy := frozen_of_row _ _ 4 _ _ q4_.out
  have q4 : Hid ((v4.setCell ⟨v0.heap.size, 4, none⟩ (.int .i64 (ack : Int))).heap[v0.heap.size]? = some (.cells #[.int .i64 1, .int .i64 (sport : Int), .int .i64 (dport : Int), .int .i64 (seq : Int), .int .i64 (ack : Int), .int .i64 0, .int .i64 0, .int .i64 0, .int .i64 0, .int .i64 0, .int .i64 0, .bool false, .slice none 0 0, .slice none 0 0] 36 (0, 0))) := Lib.hid (K.set q4_.out 4 _)
  have z4 := Lib.hid (K.other z4_.out v0.heap.size 4 (.int .i64 (ack : Int)) (by omega))
  have G4 := Lib.hid (grown_other G4_.out (grownBy_set v4 v0.heap.size 4 (.int .i64 (ack : Int))) (fun u hu => by cases hu; omega))
  have r4 := Lib.hid (r4_.out.away (grownBy_set v4 v0.heap.size 4 (.int .i64 (ack : Int))) (fun u hu => by cases hu; omega))
  go_wp2_with fail
  clear uu yy q4_ z4_ G4_ r4_
  generalize (v4.setCell ⟨v0.heap.size, 4, none⟩ (.int .i64 (ack : Int))) = u4 at q4 z4 G4 r4 ⊢
  refine Calls.mono (splitP_12 _ g (some a) n c bs 12 2 mx E4.out (by omega) r4.out (by omega) (by omega) (by omega)) ?_
  rintro e v5 ⟨rfl, rr, gg⟩
  rw [HWQ.out]
  have q5_ := Lib.hid (K.kept gg q4.out (fun u hu => by cases hu; omega))
  have z5_ := Lib.hid (K.kept gg z4.out (fun u hu => by cases hu; omega))
  have G5_ := Lib.hid (grownBy_trans G4.out gg)
  have r5_ := Lib.hid rr
  clear rr gg q4 z4 G4 r4
  have q5 := q5_
  have z5 := z5_
  have G5 := G5_
  have r5 := r5_
  clear q5_ z5_ G5_ r5_
  go_wp2_with fail
  refine Calls.mono (within_yes _ _ _ _ (by omega) (by omega)) ?_
  rintro e vx ⟨rfl, rfl⟩
  have q5_ := q5
  have z5_ := z5
  have G5_ := G5
  have r5_ := r5
  clear q5 z5 G5 r5
  have uu := K.cell q5_.out 5 _ rfl
  have yy := frozen_of_row _ _ 5 _ _ q5_.out
  have q5 : Hid ((v5.setCell ⟨v0.heap.size, 5, none⟩ (.int .i64 ((mx : Int) % 4096))).heap[v0.heap.size]? = some (.cells #[.int .i64 1, .int .i64 (sport : Int), .int .i64 (dport : Int), .int .i64 (seq : Int), .int .i64 (ack : Int), .int .i64 ((mx : Int) % 4096), .int .i64 0, .int .i64 0, .int .i64 0, .int .i64 0, .int .i64 0, .bool false, .slice none 0 0, .slice none 0 0] 36 (0, 0))) := Lib.hid (K.set q5_.out 5 _)
  have z5 := Lib.hid (K.other z5_.out v0.heap.size 5 (.int .i64 ((mx : Int) % 4096)) (by omega))
  have G5 := Lib.hid (grown_other G5_.out (grownBy_set v5 v0.heap.size 5 (.int .i64 ((mx : Int) % 4096))) (fun u hu => by cases hu; omega))
  have r5 := Lib.hid (r5_.out.away (grownBy_set v5 v0.heap.size 5 (.int .i64 ((mx : Int) % 4096))) (fun u hu => by cases hu; omega))
  go_wp2_with fail
  clear uu yy q5_ z5_ G5_ r5_
  generalize (v5.setCell ⟨v0.heap.size, 5, none⟩ (.int .i64 ((mx : Int) % 4096))) = u5 at q5 z5 G5 r5 ⊢
  refine Calls.mono (numberP _ g (some a) n c bs 14 2 window E5.out r5.out (by omega) (by omega) (by omega)) ?_
  rintro e v6 ⟨rfl, rr, gg⟩
  have q6_ := Lib.hid (K.kept gg q5.out (fun u hu => by cases hu; omega))
  have z6_ := Lib.hid (K.kept gg z5.out (fun u hu => by cases hu; omega))
  have G6_ := Lib.hid (grownBy_trans G5.out gg)
  have r6_ := Lib.hid rr
  clear rr gg q5 z5 G5 r5
  have uu := K.cell q6_.out 6 _ rfl
  have yy := frozen_of_row _ _ 6 _ _ q6_.out
  have q6 : Hid ((v6.setCell ⟨v0.heap.size, 6, none⟩ (.int .i64 (window : Int))).heap[v0.heap.size]? = some (.cells #[.int .i64 1, .int .i64 (sport : Int), .int .i64 (dport : Int), .int .i64 (seq : Int), .int .i64 (ack : Int), .int .i64 ((mx : Int) % 4096), .int .i64 (window : Int), .int .i64 0, .int .i64 0, .int .i64 0, .int .i64 0, .bool false, .slice none 0 0, .slice none 0 0] 36 (0, 0))) := Lib.hid (K.set q6_.out 6 _)
  have z6 := Lib.hid (K.other z6_.out v0.heap.size 6 (.int .i64 (window : Int)) (by omega))
  have G6 := Lib.hid (grown_other G6_.out (grownBy_set v6 v0.heap.size 6 (.int .i64 (window : Int))) (fun u hu => by cases hu; omega))
  have r6 := Lib.hid (r6_.out.away (grownBy_set v6 v0.heap.size 6 (.int .i64 (window : Int))) (fun u hu => by cases hu; omega))
  go_wp2_with fail
  clear uu yy q6_ z6_ G6_ r6_
  generalize (v6.setCell ⟨v0.heap.size, 6, none⟩ (.int .i64 (window : Int))) = u6 at q6 z6 G6 r6 ⊢
  refine Calls.mono (numberP _ g (some a) n c bs 16 2 sm E6.out r6.out (by omega) (by omega) (by omega)) ?_
  rintro e v7 ⟨rfl, rr, gg⟩
  have q7_ := Lib.hid (K.kept gg q6.out (fun u hu => by cases hu; omega))
  have z7_ := Lib.hid (K.kept gg z6.out (fun u hu => by cases hu; omega))
  have G7_ := Lib.hid (grownBy_trans G6.out gg)
  have r7_ := Lib.hid rr
  clear rr gg q6 z6 G6 r6
  have q7 := q7_
  have z7 := z7_
  have G7 := G7_
  have r7 := r7_
  clear q7_ z7_ G7_ r7_
  go_wp2_with fail
  refine Calls.mono (numberP _ g (some a) n c bs 18 2 urgent E7.out r7.out (by omega) (by omega) (by omega)) ?_
  rintro e v8 ⟨rfl, rr, gg⟩
  have q8_ := Lib.hid (K.kept gg q7.out (fun u hu => by cases hu; omega))
  have z8_ := Lib.hid (K.kept gg z7.out (fun u hu => by cases hu; omega))
  have G8_ := Lib.hid (grownBy_trans G7.out gg)
  have r8_ := Lib.hid rr
  clear rr gg q7 z7 G7 r7
  have uu := K.cell q8_.out 7 _ rfl
  have yy := frozen_of_row _ _ 7 _ _ q8_.out
  have q8 : Hid ((v8.setCell ⟨v0.heap.size, 7, none⟩ (.int .i64 (urgent : Int))).heap[v0.heap.size]? = some (.cells #[.int .i64 1, .int .i64 (sport : Int), .int .i64 (dport : Int), .int .i64 (seq : Int), .int .i64 (ack : Int), .int .i64 ((mx : Int) % 4096), .int .i64 (window : Int), .int .i64 (urgent : Int), .int .i64 0, .int .i64 0, .int .i64 0, .bool false, .slice none 0 0, .slice none 0 0] 36 (0, 0))) := Lib.hid (K.set q8_.out 7 _)
  have z8 := Lib.hid (K.other z8_.out v0.heap.size 7 (.int .i64 (urgent : Int)) (by omega))
  have G8 := Lib.hid (grown_other G8_.out (grownBy_set v8 v0.heap.size 7 (.int .i64 (urgent : Int))) (fun u hu => by cases hu; omega))
  have r8 := Lib.hid (r8_.out.away (grownBy_set v8 v0.heap.size 7 (.int .i64 (urgent : Int))) (fun u hu => by cases hu; omega))
  go_wp2_with fail
  clear uu yy q8_ z8_ G8_ r8_
  generalize (v8.setCell ⟨v0.heap.size, 7, none⟩ (.int .i64 (urgent : Int))) = u8 at q8 z8 G8 r8 ⊢
  have hlb : v0.heap.size < u8.heap.size := K.lt q8.out
  refine Calls.mono (takeP _ g a n c bs 20 p r8.out (by omega)) ?_
  rintro e v9 ⟨O, o, rfl, oo, rr, gg⟩
  rw [HP.out] at rr
  have q9_ := Lib.hid (K.kept gg q8.out (fun u hu => by cases hu; omega))
  have z9_ := Lib.hid (K.kept gg z8.out (fun u hu => by cases hu; omega))
  have G9_ := Lib.hid (grownBy_trans G8.out gg)
  have r9_ := Lib.hid rr
  clear rr gg q8 z8 G8 r8
  have O9_ := Lib.hid (own_base oo (show v0.heap.size + 1 ≤ _ from hlb))
  clear oo
  have uu := K.cell q9_.out 12 _ rfl
  have yy := frozen_of_row _ _ 12 _ _ q9_.out
  have q9 : Hid ((v9.setCell ⟨v0.heap.size, 12, none⟩ (.slice O p o)).heap[v0.heap.size]? = some (.cells #[.int .i64 1, .int .i64 (sport : Int), .int .i64 (dport : Int), .int .i64 (seq : Int), .int .i64 (ack : Int), .int .i64 ((mx : Int) % 4096), .int .i64 (window : Int), .int .i64 (urgent : Int), .int .i64 0, .int .i64 0, .int .i64 0, .bool false, .slice O p o, .slice none 0 0] 36 (0, 0))) := Lib.hid (K.set q9_.out 12 _)
  have z9 := Lib.hid (K.other z9_.out v0.heap.size 12 (.slice O p o) (by omega))
  have G9 := Lib.hid (grown_other G9_.out (grownBy_set v9 v0.heap.size 12 (.slice O p o)) (fun u hu => by cases hu; omega))
  have r9 := Lib.hid (r9_.out.away (grownBy_set v9 v0.heap.size 12 (.slice O p o)) (fun u hu => by cases hu; omega))
  have O9 := Lib.hid (own_set O9_.out v0.heap.size 12 (.slice O p o) (by omega))
  go_wp2_with fail
  clear uu yy q9_ z9_ G9_ r9_ O9_
  generalize (v9.setCell ⟨v0.heap.size, 12, none⟩ (.slice O p o)) = u9 at q9 z9 G9 r9 O9 ⊢
  refine wp_region_grow (w := u9) (some g) (by kernel_rfl) 9 82 [(0, 71), (1, 72), (2, 73), (3, 74), (4, 75), (5, 76), (6, 77), (7, 78), (8, 79)] _ ([.val (.pointer (some ⟨g, 0, none⟩)), .val (.pointer (some ⟨g, 0, none⟩)), .val (.pointer (some ⟨g, 0, none⟩)), .val (.pointer (some ⟨g, 0, none⟩)), .val (.pointer (some ⟨g, 0, none⟩)), .val (.pointer (some ⟨g, 0, none⟩)), .val (.int .i64 (l : Int)), .any, .val (.pointer (some ⟨v0.heap.size, 13, none⟩))]) (by kernel_rfl) (by kernel_rfl) rfl 7 78 (by omega) (by decide) rfl (fun b' v => w.grownBy v (some g) ∧ v.heap[v0.heap.size]? = some (.cells #[.int .i64 1, .int .i64 (sport : Int), .int .i64 (dport : Int), .int .i64 (seq : Int), .int .i64 (ack : Int), .int .i64 ((mx : Int) % 4096), .int .i64 (window : Int), .int .i64 (urgent : Int), .int .i64 0, .int .i64 0, .int .i64 0, .bool false, .slice O p o, .slice none 0 0] 36 (0, 0)) ∧ v.heap[w.heap.size]? = some (.cells #[.int .i64 0, .int .i64 0, .int .i64 0, .int .i64 0, .int .i64 0, .int .i64 0, .int .i64 0, .int .i64 0, .int .i64 0, .int .i64 0, .int .i64 0, .bool false, .slice none 0 0, .slice none 0 0] 36 (0, 0)) ∧ u9.heap.size ≤ v.heap.size ∧ (b' = false → Rp v g (some a) n c bs hd) ∧ v.ownsRow (v0.heap.size + 1) 5 1 (.slice O p o) p (cellsOf ((bs.drop 20).take p))) (fun b' v v' hb h => ⟨grownBy_trans h.1 (below_grown hb _), K.below hb h.2.1, K.below hb h.2.2.1, Nat.le_trans h.2.2.2.1 hb.size, fun e => (h.2.2.2.2.1 e).below hb, own_below h.2.2.2.2.2 hb⟩) ⟨⟨G9.out.os, G9.out.tape, G9.out.output, G9.out.size, G9.out.block⟩, q9.out, z9.out, Nat.le_refl _, fun _ => ⟨r9.out.blk, r9.out.rb, r9.out.len, r9.out.small, r9.out.cap⟩, O9.out⟩ (OwnB u9.heap.size l (bs.drop hd)) (fun v v' u hb h => OwnB.on v v' u hb h) ?_ ?_ ?_
  · intro j o hj hjp ho b' a' v K' hbt hx hnd hJJ hK
    match j, hj, hjp, ho with
    | 0, _, _, ho =>
      obtain rfl := Option.some.inj ho
      have h0 : a'.eval (.tmp 0) = .pointer (some ⟨g, 0, none⟩) := (hx 0 (by decide)).trans rfl
      exact u_move _ _ rfl h0 (hK _ _ rfl (Below.refl _ _))
    | 1, _, _, ho =>
      obtain rfl := Option.some.inj ho
      have h0 : a'.eval (.tmp 71) = .pointer (some ⟨g, 0, none⟩) := (grow_of hnd 0 71 (by kernel_rfl) (by decide) :)
      exact t_nil _ _ rfl h0 (hK _ _ rfl (Below.refl _ _))
    | 2, _, _, ho =>
      obtain rfl := Option.some.inj ho
      have h0 : a'.eval (.tmp 72) = .pointer (some ⟨g, 0, none⟩) := (grow_of hnd 1 72 (by kernel_rfl) (by decide) :)
      exact t_fldR _ _ rfl h0 (hK _ _ rfl (Below.refl _ _))
    | 3, _, _, ho =>
      obtain rfl := Option.some.inj ho
      have h0 : a'.eval (.tmp 0) = .pointer (some ⟨g, 0, none⟩) := (hx 0 (by decide)).trans rfl
      exact u_move _ _ rfl h0 (hK _ _ rfl (Below.refl _ _))
    | 4, _, _, ho =>
      obtain rfl := Option.some.inj ho
      have h0 : a'.eval (.tmp 74) = .pointer (some ⟨g, 0, none⟩) := (grow_of hnd 3 74 (by kernel_rfl) (by decide) :)
      exact t_nil _ _ rfl h0 (hK _ _ rfl (Below.refl _ _))
    | 5, _, _, ho =>
      obtain rfl := Option.some.inj ho
      have h0 : a'.eval (.tmp 75) = .pointer (some ⟨g, 0, none⟩) := (grow_of hnd 4 75 (by kernel_rfl) (by decide) :)
      exact t_fldR _ _ rfl h0 (hK _ _ rfl (Below.refl _ _))
    | 6, _, _, ho =>
      obtain rfl := Option.some.inj ho
      have h0 : a'.eval (.tmp 76) = .pointer (some ⟨g, 0, none⟩) := (grow_of hnd 5 76 (by kernel_rfl) (by decide) :)
      cases b' with
      | false =>
        refine t_left _ _ _ rfl h0 (Calls.mono (leftP v g (some a) n c bs hd l (hJJ.2.2.2.2.1 rfl) (by omega)) ?_)
        rintro e' v' ⟨rfl, b6⟩
        exact ⟨_, rfl, hK _ _ rfl b6⟩
      | true =>
        exact absurd (hbt (by kernel_rfl)) (by simp)
    | 7, _, hjp, _ => exact absurd rfl hjp
    | 8, _, _, ho =>
      obtain rfl := Option.some.inj ho
      have h0 : a'.eval (.tmp 6) = .pointer (some ⟨v0.heap.size, 0, none⟩) := (hx 6 (by decide)).trans rfl
      exact u_fldU13 _ _ rfl h0 (hK _ _ rfl (Below.refl _ _))
    | j + 9, hj, _, _ => omega
  · intro o ho a' v K' hx hnd hJJ hK
    obtain rfl := Option.some.inj ho
    have h0 : a'.eval (.tmp 73) = .pointer (some ⟨g, 0, none⟩) := (grow_of hnd 2 73 (by kernel_rfl) (by decide) :)
    have h1 : a'.eval (.tmp 77) = .int .i64 (l : Int) := (grow_of hnd 6 77 (by kernel_rfl) (by decide) :)
    refine t_take _ _ _ _ _ rfl h0 h1 (Calls.mono (takeP v g a n c bs hd l (hJJ.2.2.2.2.1 rfl) (by omega)) ?_)
    rintro e' v' ⟨E', k', rfl, o8, r8, g8⟩
    rw [HD.out] at o8
    exact ⟨_, rfl, hK _ _ ⟨E', k', rfl, own_base o8 hJJ.2.2.2.1⟩ g8 ⟨grownBy_trans hJJ.1 g8, K.kept g8 hJJ.2.1 (fun u hu => by cases hu; omega), K.kept g8 hJJ.2.2.1 (fun u hu => by cases hu; omega), Nat.le_trans hJJ.2.2.2.1 g8.size, (fun e => by cases e), own_grown hJJ.2.2.2.2.2 g8 (fun k h1 h2 => by cases h2; have := (hJJ.2.2.2.2.2.lt _ h1).1; omega)⟩⟩
  · intro f v hf OG hJJ
    have e0 : f 0 = (.pointer (some ⟨g, 0, none⟩)) := hf (0, 71) (by decide) (by decide)
    have e1 : f 1 = (.pointer (some ⟨g, 0, none⟩)) := hf (1, 72) (by decide) (by decide)
    have e2 : f 2 = (.pointer (some ⟨g, 0, none⟩)) := hf (2, 73) (by decide) (by decide)
    have e3 : f 3 = (.pointer (some ⟨g, 0, none⟩)) := hf (3, 74) (by decide) (by decide)
    have e4 : f 4 = (.pointer (some ⟨g, 0, none⟩)) := hf (4, 75) (by decide) (by decide)
    have e5 : f 5 = (.pointer (some ⟨g, 0, none⟩)) := hf (5, 76) (by decide) (by decide)
    have e6 : f 6 = (.int .i64 (l : Int)) := hf (6, 77) (by decide) (by decide)
    have e8 : f 8 = (.pointer (some ⟨v0.heap.size, 13, none⟩)) := hf (8, 79) (by decide) (by decide)
    simp only [List.foldl_cons, List.foldl_nil, List.drop_succ_cons, List.drop_zero, e0, e1, e2, e3, e4, e5, e6, e8]
    clear e0 e1 e2 e3 e4 e5 e6 e8 hf
    go_simp
    obtain ⟨D, d, e9, oD⟩ := OG
    rw [e9]
    clear e9
    obtain ⟨j1, j2, j3, j4, _, j6⟩ := hJJ
    have lz : v0.heap.size < u9.heap.size := K.lt q9.out
    have u13 := K.cell j2 13 _ rfl
    have y13 := frozen_of_row _ _ 13 _ _ j2
    have qe9 : Hid ((v.setCell ⟨v0.heap.size, 13, none⟩ (.slice D l d)).heap[v0.heap.size]? = some (.cells #[.int .i64 1, .int .i64 (sport : Int), .int .i64 (dport : Int), .int .i64 (seq : Int), .int .i64 (ack : Int), .int .i64 ((mx : Int) % 4096), .int .i64 (window : Int), .int .i64 (urgent : Int), .int .i64 0, .int .i64 0, .int .i64 0, .bool false, .slice O p o, .slice D l d] 36 (0, 0))) := Lib.hid (K.set j2 13 _)
    have ze9 := Lib.hid (K.other j3 (v0.heap.size) 13 (.slice D l d) (by omega))
    have Oe9 := Lib.hid (own_set oD (v0.heap.size) 13 (.slice D l d) (by omega))
    have Ge9 := Lib.hid (grown_other j1 (grownBy_set v (v0.heap.size) 13 (.slice D l d)) (fun u hu => by cases hu; omega))
    have He9 := Lib.hid (own_set j6 (v0.heap.size) 13 (.slice D l d) (by omega))
    have LH9 := Lib.hid (fun k hk => (O9.out.lt k hk).2)
    clear j1 j2 j3 j4 oD j6
    go_wp2_with (first | (with_reducible refine loadU rfl _ rfl (v0.heap.size) rfl qe9.out ?_) | (with_reducible refine storeU rfl _ _ rfl w.heap.size rfl rfl ze9.out ?_))
    (try simp only [Exit.inBlock, Exit.then])
    refine bodyPost_ret (v := .tuple #[.agg #[.int .i64 1, .int .i64 (sport : Int), .int .i64 (dport : Int), .int .i64 (seq : Int), .int .i64 (ack : Int), .int .i64 ((mx : Int) % 4096), .int .i64 (window : Int), .int .i64 (urgent : Int), .int .i64 0, .int .i64 0, .int .i64 0, .bool false, .slice O p o, .slice D l d], .int .i64 (sm : Int), .int .i64 0]) ?_ rfl ⟨O, o, D, d, rfl, own_base (K.setRow_own _ He9.out (by omega)) (by omega), own_base (K.setRow_own _ Oe9.out (by omega)) (by omega), (fun k h1 h2 => by have := LH9.out k h1; have := (Oe9.out.lt k h2).1; omega), grown_other Ge9.out (K.setRow_grown _ _ _) (fun u hu => by cases hu; omega)⟩
    exact K.resCell3 Try.results88 _ _ _ w.heap.size _ rfl (run_loadVar_row _ _ 36 36 _ (0, 0) _ (setRow_heap _ _ _ _ _ _ ze9.out) Try.underlying36 rfl info_up)
end Go.Proofs.Ythogonpjkngpjaa
