/-
  Small facts on memory that the walks of this seat share: a slice of bytes that reads as a list, rows of the call's own. Nothing here speaks of the program. 'append' onto a row of bytes of the call's own, from whatever source of bytes. What the laws' own four helpers on slices of bytes do: a copy, a comparison, a marking, a look at the marks. A slice of bytes that came in: what the walk is told of it, out of its reading. A region that draws its order, by what each of its operations leaves: whatever order is drawn, each operation finds what those leave on which it waits. Plain: any program. A region that draws its order, the first k operations of which may come up in any order, and the others only behind all of them and in their own order: the first ones by what each of them leaves, the others as a list. Plain: any program. A region that draws its order and holds a chain of operations, each of which waits for the one before it: whatever order is drawn, the chain's operations run in their order, so each finds what the one before it left. Plain: any program. A region that draws its order, the first k operations of which hold a chain of operations in forced order, and the others follow in their own order: the first ones by what each of them leaves, the others as a list. Plain: any program. The model's cursor over a code of bytes: it hands out numbers. All that the laws need of it: the number is in its range, the cursor stays one, nothing else has turned. The cursor's other ways to hand out numbers. The model's cursor, number by number: what it hands out hangs on the code, the place and the seed alone. What the model draws for the laws of chapter 1.
-/
import Derived.WalkKit
import Derived.Deep.Draws
import Derived.Lib.Hide
import Derived.Test.YthogonpjkngpjaaProg
import Derived.Outline
import Derived.Maps.AppendAt
import Derived.Deep.RegionLaw
import Derived.Deep.RegionHeld3
import Derived.Deep.QuietTactic
import Derived.BigQuiet
import Derived.ProofKit
import Derived.OpenShut
import Derived.Orders
namespace Go.Proofs.Ythogonpjkngpjaa
set_option maxRecDepth 100000
open Go.RowKit
def cellsOf (bs : List UInt8) : List Value := bs.map fun b => .int .u8 (b.toNat : Int)
def RB (w : World) (B : Nat) (A : Option Addr) (bs : List UInt8) : Prop :=
  0 < bs.length → ∃ g o, A = some ⟨g, o, none⟩ ∧ g < B ∧ ∀ j (u : UInt8), bs[j]? = some u → w.cell? ⟨g, o + j, none⟩ = some (.int .u8 (u.toNat : Int))
theorem cellsOf_length (bs : List UInt8) : (cellsOf bs).length = bs.length := by simp [cellsOf]
theorem cellsOf_get (bs : List UInt8) (j : Nat) (u : UInt8) (h : bs[j]? = some u) : (cellsOf bs)[j]? = some (.int .u8 (u.toNat : Int)) := by simp [cellsOf, h]
theorem cellsOf_append (a b : List UInt8) : cellsOf (a ++ b) = cellsOf a ++ cellsOf b := by simp [cellsOf]
theorem cellsOf_one (bs : List UInt8) : ∀ u ∈ cellsOf bs, u.oneCell' = true := by
  intro u hu
  simp only [cellsOf, List.mem_map] at hu
  obtain ⟨b, _, rfl⟩ := hu
  rfl
section
variable {w w' : World} {B B' : Nat} {A : Option Addr} {bs : List UInt8}
theorem RB.below (h : RB w B A bs) (hb : Below B w w') : RB w' B A bs := by
  intro hp
  obtain ⟨g, o, e, hg, hc⟩ := h hp
  exact ⟨g, o, e, hg, fun j u hu => (hb.cell (p := ⟨g, o + j, none⟩) hg).trans (hc j u hu)⟩
theorem RB.more (h : RB w B A bs) (hB : B ≤ B') : RB w B' A bs := by
  intro hp
  obtain ⟨g, o, e, hg, hc⟩ := h hp
  exact ⟨g, o, e, by omega, hc⟩
theorem RB.at_ (h : RB w B A bs) {k : Nat} (hk : k < bs.length) : ∃ g o, A = some ⟨g, o, none⟩ ∧ g < B ∧ w.cell? ⟨g, o + k, none⟩ = some (.int .u8 (bs[k].toNat : Int)) := by
  obtain ⟨g, o, e, hg, hc⟩ := h (by omega)
  exact ⟨g, o, e, hg, hc k _ (List.getElem?_eq_getElem hk)⟩
theorem RB.nil_ (w : World) (B : Nat) (A : Option Addr) : RB w B A [] := fun h => absurd h (by simp)
theorem RB.of_own {base : Nat} {e : TypeId} {n c : Nat} (h : w.ownsRow base e 1 (.slice A n c) n (cellsOf bs)) : RB w w.heap.size A bs := by
  intro hp
  have hl := h.1
  rw [cellsOf_length] at hl
  rcases h.2 with ⟨h1, h2⟩ | ⟨g, cap, cur, hv, _, hg, _⟩
  · omega
  · injection hv with hA hn hc
    subst hA
    subst hc
    refine ⟨g, 0, rfl, (Array.getElem?_eq_some_iff.1 hg).1, fun j u hu => ?_⟩
    have hj : j < bs.length := by
      rcases Nat.lt_or_ge j bs.length with h | h
      · exact h
      · rw [List.getElem?_eq_none h] at hu; cases hu
    have := h.cellAt j (by omega)
    rw [Nat.zero_add, this]
    exact cellsOf_get bs j u hu
end
theorem own_below {w w' : World} {base : Nat} {e : TypeId} {size n : Nat} {v : Value} {xs : List Value} (h : w.ownsRow base e size v n xs) (hb : Below w.heap.size w w') : w'.ownsRow base e size v n xs := by
  refine ⟨h.1, ?_⟩
  rcases h.2 with hn | ⟨g, cap, cur, rfl, hbase, hg, rest⟩
  · exact .inl hn
  · exact .inr ⟨g, cap, cur, rfl, hbase, (hb.block g (Array.getElem?_eq_some_iff.1 hg).1).trans hg, rest⟩
theorem own_base {w : World} {base base' : Nat} {e : TypeId} {size n : Nat} {v : Value} {xs : List Value} (h : w.ownsRow base e size v n xs) (hb : base' ≤ base) : w.ownsRow base' e size v n xs := by
  refine ⟨h.1, ?_⟩
  rcases h.2 with hn | ⟨g, cap, cur, rfl, hbase, rest⟩
  · exact .inl hn
  · exact .inr ⟨g, cap, cur, rfl, by omega, rest⟩
theorem below_drewN {B : Nat} {a w : World} (h : Below B a w) (n : Nat) : Below B a (w.drewN n) := ⟨h.os, h.tape, h.output, h.size, h.block⟩
theorem ret_int {k : IntKind} {a b : Int} (h : a = b) : Ending.returned (.int k a) = .returned (.int k b) := by rw [h]
theorem ret_bool {a b : Bool} (h : a = b) : Ending.returned (.bool a) = .returned (.bool b) := by rw [h]
theorem set_mid (a : List Value) (x v : Value) (t : List Value) (k : Nat) (hk : a.length = k) : (a ++ x :: t).set k v = a ++ v :: t := by
  subst hk
  simp
theorem take_snoc {T : Type} (l : List T) (k : Nat) (h : k < l.length) : l.take (k + 1) = l.take k ++ [l[k]] := List.take_succ_eq_append_getElem h
theorem own_form {w : World} {base : Nat} {e : TypeId} {size n : Nat} {v : Value} {xs : List Value} (h : w.ownsRow base e size v n xs) : ∃ A c, v = .slice A n c := by
  rcases h.2 with ⟨rfl, rfl⟩ | ⟨g, cap, cur, rfl, _⟩
  · exact ⟨_, _, rfl⟩
  · exact ⟨_, _, rfl⟩
theorem bthen {a b c : World} (h : Below a.heap.size a b) (k : Below b.heap.size b c) : Below a.heap.size a c := h.trans (k.mono h.size)
theorem bgrown {a b c : World} {row : Option Nat} (h : Below a.heap.size a b) (g : b.grownBy c row) (l : ∀ k, row = some k → a.heap.size ≤ k) : Below a.heap.size a c := h.grown g h.size l
theorem own_grown {w w' : World} {base : Nat} {e : TypeId} {size n : Nat} {v : Value} {xs : List Value} {row : Option Nat} (h : w.ownsRow base e size v n xs) (hg : w.grownBy w' row) (hne : ∀ k, v.ownBlock = some k → row ≠ some k) : w'.ownsRow base e size v n xs := by
  refine h.kept hg ?_
  cases hv : v.ownBlock with
  | none => exact .inl rfl
  | some k => exact .inr (fun e => hne k hv e.symm)
end Go.Proofs.Ythogonpjkngpjaa

namespace Go.Proofs.Ythogonpjkngpjaa
set_option maxRecDepth 100000
open Go.RowKit
theorem info_u8 : (Try.prog.info? 5).map (fun i => (i.zero, i.size, i.bytes)) = some (some (.int .u8 0), 1, 1) := by kernel_rfl
theorem grownBy_trans {a b c : World} {row : Option Nat} (h : a.grownBy b row) (k : b.grownBy c row) : a.grownBy c row :=
  ⟨k.os.trans h.os, k.tape.trans h.tape, k.output.trans h.output, Nat.le_trans h.size k.size, fun i hi hne => (k.block i (Nat.lt_of_lt_of_le hi h.size) hne).trans (h.block i hi hne)⟩
theorem addr_add (g o j : Nat) : (⟨g, o, none⟩ : Addr).add j = ⟨g, o + j, none⟩ := by
  unfold Addr.add
  split <;> simp_all
set_option maxRecDepth 100000 in
theorem run_append_b (w : World) (ty base : Nat) (v : Value) (bs : List UInt8) (hown : w.ownsRow base 5 1 v bs.length (cellsOf bs)) (B : Nat) (A : Option Addr) (m c : Nat) (ds : List UInt8) (hm : ds.length = m) (hr : RB w B A ds)
    (hn : bs.length + ds.length ≤ 67108864) (hbase : base ≤ w.heap.size) :
    ∃ v' w', (Builtin.append_ #[34, 34] ty #[v, .slice A m c]).run Try.prog w = .ok v' w' ∧ w'.ownsRow base 5 1 v' (bs ++ ds).length (cellsOf (bs ++ ds)) ∧ w.grownBy w' v.ownBlock ∧
      (v'.ownBlock = v.ownBlock ∨ v'.ownBlock = some w.heap.size) := by
  obtain ⟨i0, hi0, hz0, hz1, hz2⟩ := info_parts info_u8
  subst hm
  rw [cellsOf_append, List.length_append]
  have hlen : (cellsOf ds).length = ds.length * 1 := by rw [cellsOf_length, Nat.mul_one]
  rcases A with _ | ad
  · have h0 : ds = [] := by
      rcases ds with _ | ⟨d, ds⟩
      · rfl
      · obtain ⟨g, o, h, _⟩ := hr (by simp)
        cases h
    subst h0
    refine ⟨v, w, ?_, by simpa [cellsOf] using hown, World.grownBy.refl _ _, .inl rfl⟩
    rcases hown.2 with ⟨rfl, h0⟩ | ⟨g, cap, cur, rfl, _, _, hnc, _⟩
    · simp [Builtin.append_, run_underlying Try.underlying34, sizeOf, typeInfo, hi0, Builtin.lenOf, Builtin.firstCells]
    · simp [Builtin.append_, run_underlying Try.underlying34, sizeOf, typeInfo, hi0, Builtin.lenOf, Builtin.firstCells, hnc, storeCells]
  · obtain ⟨v', w', h1, h2, h3, _, h5⟩ := run_append_own_at (P := Try.prog) w base 34 ty 5 i0 (.int .u8 0) 1 1 Try.underlying34 hi0 hz0 hz1 hz2 rfl (by omega) v bs.length (cellsOf bs) hown ad ds.length c (cellsOf ds) hlen (by
        intro j u hu
        have hj : j < ds.length := by
          rcases Nat.lt_or_ge j ds.length with h | h
          · exact h
          · rw [List.getElem?_eq_none (by rw [cellsOf_length]; exact h)] at hu; cases hu
        obtain ⟨g, o, h, _, hc⟩ := hr (by omega)
        injection h with h
        subst h
        rw [addr_add, hc j _ (List.getElem?_eq_getElem hj)]
        rw [cellsOf_get ds j _ (List.getElem?_eq_getElem hj)] at hu
        exact hu) (cellsOf_one ds) (by unfold maxLen; omega) (by omega) hbase
    exact ⟨v', w', h1, h2, h3, h5⟩
theorem wpList_append_b {w : World} {ops : Array Oper} {rest : List Oper} {o : Oper} {a : Act} {Q : Exit → Act → World → Prop} (hgd : o.guard = none) (s x : Operand)
    (ho : o.op = .call { callee := .builtin .append, args := #[s, x], argTypes := #[34, 34] }) (base : Nat) (v : Value) (bs : List UInt8) (hs : a.eval s = v) (hown : w.ownsRow base 5 1 v bs.length (cellsOf bs))
    (B : Nat) (A : Option Addr) (m c : Nat) (ds : List UInt8) (hx : a.eval x = .slice A m c) (hm : ds.length = m) (hr : RB w B A ds) (hn : bs.length + ds.length ≤ 67108864) (hbase : base ≤ w.heap.size)
    (h : ∀ v' w', w'.ownsRow base 5 1 v' (bs ++ ds).length (cellsOf (bs ++ ds)) → w.grownBy w' v.ownBlock → (v'.ownBlock = v.ownBlock ∨ v'.ownBlock = some w.heap.size) → wpList Try.prog ops Q rest (a.put o.dst v') w') :
    wpList Try.prog ops Q (o :: rest) a w := by
  refine wpList_plain hgd fun K hK => ?_
  obtain ⟨v', w', hrun, h2, h3, h4⟩ := run_append_b w o.type base v bs hown B A m c ds hm hr hn hbase
  unfold Oper.wp execOp
  simp only [ho, resolve, invoke, builtin, Sem.run_bind, Sem.run_pure, Result.andThen_ok, List.map_toArray, List.map_cons, List.map_nil, hs, hx, hrun]
  exact hK _ _ (h v' w' h2 h3 h4)
theorem step_append_b {w : World} {ops : Array Oper} {o : Oper} {a : Act} {K : Act → World → Prop} {Q : Exit → Act → World → Prop} {E : Prop} (hgd : o.guard = none) (s x : Operand)
    (ho : o.op = .call { callee := .builtin .append, args := #[s, x], argTypes := #[34, 34] }) (base : Nat) (v : Value) (bs : List UInt8) (hs : a.eval s = v) (hown : w.ownsRow base 5 1 v bs.length (cellsOf bs))
    (B : Nat) (A : Option Addr) (m c : Nat) (ds : List UInt8) (hx : a.eval x = .slice A m c) (hm : ds.length = m) (hr : RB w B A ds) (hn : bs.length + ds.length ≤ 67108864) (hbase : base ≤ w.heap.size)
    (h : ∀ v' w', w'.ownsRow base 5 1 v' (bs ++ ds).length (cellsOf (bs ++ ds)) → w.grownBy w' v.ownBlock → (v'.ownBlock = v.ownBlock ∨ v'.ownBlock = some w.heap.size) → K (a.put o.dst v') w') :
    if Region.wanted o (yielded ops a.tmps) = true then Oper.wp Try.prog o a w K Q else E := by
  have hw : Region.wanted o (yielded ops a.tmps) = true := by simp [Region.wanted, hgd]
  rw [if_pos hw]
  obtain ⟨v', w', hrun, h2, h3, h4⟩ := run_append_b w o.type base v bs hown B A m c ds hm hr hn hbase
  unfold Oper.wp execOp
  simp only [ho, resolve, invoke, builtin, Sem.run_bind, Sem.run_pure, Result.andThen_ok, List.map_toArray, List.map_cons, List.map_nil, hs, hx, hrun]
  exact h v' w' h2 h3 h4
theorem RB.new (w : World) (e : TypeId) (bs : List UInt8) : RB (w.alloc (.cells (cellsOf bs).toArray e)) (w.heap.size + 1) (some ⟨w.heap.size, 0, none⟩) bs := by
  intro hp
  refine ⟨w.heap.size, 0, rfl, by omega, fun j u hu => ?_⟩
  rw [cell_of_row _ w.heap.size (0 + j) _ e (0, 0) (heap_alloc_new w _)]
  simpa using cellsOf_get bs j u hu
def mark (k i : Nat) : UInt8 := UInt8.ofNat (k + i)
def marks (k n : Nat) : List UInt8 := (List.range n).map (mark k)
end Go.Proofs.Ythogonpjkngpjaa

namespace Go.Proofs.Ythogonpjkngpjaa
set_option maxRecDepth 100000
open Go.RowKit Go.ChangeShapes Go.WideShapes Go.ChangeAt
structure In (w : World) (A : Option Addr) (n c : Nat) (bs : List UInt8) : Prop where
  len : bs.length = n
  cap : n ≤ c
  big : c ≤ maxLen
  rb : RB w w.heap.size A bs
theorem byte_of_wf (z : Int) (h : (Lit.int .u8 z).wf = true) : ((UInt8.ofNat z.toNat).toNat : Int) = z := by
  have hb := bounds_u8 h
  simp
  omega
theorem bytes_in {H : Type} {enc : TypeId × Value → H} {w : World} {A : Option Addr} {n c : Nat} {d : DataW H} {p : List MemPlace} (h : DataW.Trod enc Try.prog w 0 (fun _ => true) true 34 (.slice A n c) d p) :
    ∃ bs, In w A n c bs := by
  obtain ⟨fuel, hf⟩ := h
  rcases open_ints Try.underlying34 Try.underlying5 (by kernel_rfl) hf with ⟨hcs, _⟩ | ⟨x, l, cp, zs, hcs, _, hl, hm, hz, _, hcell, hwz⟩
  · simp [Value.cells] at hcs
    obtain ⟨rfl, rfl, rfl⟩ := hcs
    exact ⟨[], rfl, Nat.le_refl _, Nat.zero_le _, RB.nil_ _ _ _⟩
  · simp [Value.cells] at hcs
    obtain ⟨rfl, rfl, rfl⟩ := hcs
    simp only [if_true] at hz
    refine ⟨(zs.take n).map fun z => UInt8.ofNat z.toNat, by simp; omega, hl, hm, fun hp => ?_⟩
    simp only [List.length_map, List.length_take] at hp
    obtain ⟨g, o, spot⟩ := x
    have h0 := hcell 0 (by omega)
    have hspot : spot = none := by simpa [Addr.add] using World.cell?_spot h0
    subst hspot
    refine ⟨g, o, rfl, ?_, fun j u hu => ?_⟩
    · have := World.block_lt_of_cell? w _ h0
      simpa [addr_add] using this
    · simp only [List.getElem?_map, Option.map_eq_some_iff, List.getElem?_take] at hu
      obtain ⟨z, hz1, rfl⟩ := hu
      split at hz1
      · have hj : j < zs.length := by omega
        have hc := hcell j hj
        rw [addr_add] at hc
        rw [hc]
        have hzj : zs[j] = z := by rw [List.getElem?_eq_getElem hj] at hz1; simpa using hz1
        rw [byte_of_wf z (hwz z (by rw [← hzj]; exact List.getElem_mem hj))]
        simp [hj, hzj]
      · cases hz1
end Go.Proofs.Ythogonpjkngpjaa

namespace Go.Proofs.Ythogonpjkngpjaa
set_option maxRecDepth 100000
open Go.RowKit
section
variable {P : Program} {ops : Array Oper} {Q : Exit → Act → World → Prop}
def needOf (ops : Array Oper) (j : Nat) : List (Nat × Nat) :=
  match ops[j]? with
  | none => []
  | some o => o.after.toList.filterMap fun e => if Region.binds .any e then ((ops[e.on]?).bind (·.dst)).map fun d => (e.on, d) else none
theorem needOf_spec {j : Nat} {o : Oper} (ho : ops[j]? = some o) {p : Nat × Nat} (hp : p ∈ needOf ops j) :
    (∃ e ∈ o.after, e.on = p.1 ∧ Region.binds .any e = true) ∧ ∃ oj, ops[p.1]? = some oj ∧ oj.dst = some p.2 := by
  unfold needOf at hp
  rw [ho] at hp
  obtain ⟨e, he, hq⟩ := List.mem_filterMap.1 hp
  split at hq
  · rename_i hb
    rw [Option.map_eq_some_iff] at hq
    obtain ⟨d, hd, rfl⟩ := hq
    rw [Option.bind_eq_some_iff] at hd
    obtain ⟨oj, h1, h2⟩ := hd
    exact ⟨⟨e, by simpa using he, rfl, hb⟩, oj, h1, h2⟩
  · cases hq
def formB (ops : Array Oper) (n : Nat) (out : List Nat) : Bool :=
  (List.range ops.size).all fun j => match ops[j]? with
    | none => true
    | some o => o.after.all (fun e => !Region.binds .any e || decide (e.on < j)) && o.guard.isNone && (match o.dst with
      | none => true
      | some d => decide (d < n) && !out.contains d && (List.range ops.size).all fun i => decide (i = j) || decide ((ops[i]?).bind (·.dst) ≠ some d))
theorem formB_at {n : Nat} {out : List Nat} (h : formB ops n out = true) {j : Nat} {o : Oper} (ho : ops[j]? = some o) :
    (∀ e ∈ o.after, Region.binds .any e = true → e.on < j) ∧ o.guard = none ∧ ∀ d, o.dst = some d → d < n ∧ d ∉ out ∧ ∀ i oi, ops[i]? = some oi → oi.dst = some d → i = j := by
  have hj : j < ops.size := (Array.getElem?_eq_some_iff.1 ho).1
  have h1 := List.all_eq_true.1 h j (List.mem_range.2 hj)
  rw [ho] at h1
  simp only [Bool.and_eq_true] at h1
  refine ⟨fun e he hb => ?_, ?_, fun d hd => ?_⟩
  · have := Array.all_eq_true_iff_forall_mem.1 h1.1.1 e he
    simpa [hb] using this
  · simpa using h1.1.2
  · have h2 := h1.2
    rw [hd] at h2
    simp only [Bool.and_eq_true, decide_eq_true_eq, Bool.not_eq_true', List.contains_eq_mem, decide_eq_false_iff_not] at h2
    refine ⟨h2.1.1, h2.1.2, fun i oi hi hdi => ?_⟩
    have hil : i < ops.size := (Array.getElem?_eq_some_iff.1 hi).1
    have h3 := List.all_eq_true.1 h2.2 i (List.mem_range.2 hil)
    rw [hi] at h3
    simp only [Option.bind_some, hdi, ne_eq, not_true, decide_false, Bool.or_false, decide_eq_true_eq] at h3
    exact h3
theorem put_other (a : Act) {dst : Option Tmp} {t : Nat} (v : Value) (h : dst ≠ some t) : (a.put dst v).tmps.getD t undef = a.tmps.getD t undef := by
  cases dst with
  | none => rfl
  | some d =>
    have hne : d ≠ t := fun e => h (by rw [e])
    simp [Act.put, Array.getElem?_setIfInBounds_ne hne]
theorem put_own (a : Act) {d n : Nat} (v : Value) (h : d < n) (hn : a.tmps.size = n) : (a.put (some d) v).tmps.getD d undef = v := by
  subst hn
  simp [Act.put, h]
theorem put_size (a : Act) (dst : Option Tmp) (v : Value) : (a.put dst v).tmps.size = a.tmps.size := by
  cases dst with
  | none => rfl
  | some d => simp [Act.put]
theorem put_defers' (a : Act) (dst : Option Tmp) (v : Value) : (a.put dst v).defers = a.defers := by
  cases dst <;> rfl
def up (listed : Array Bool) : Nat := listed.toList.count true
theorem up_set {listed : Array Bool} {i : Nat} (h : listed.getD i true = false) : up (listed.setIfInBounds i true) = up listed + 1 ∧ i < listed.size := by
  have hi : i < listed.size := by
    by_cases hi : i < listed.size
    · exact hi
    · simp [hi] at h
  refine ⟨?_, hi⟩
  have hg : listed[i] = false := by simpa [hi] using h
  have hl : i < listed.toList.length := hi
  unfold up
  rw [Array.toList_setIfInBounds, List.count_set hl]
  have hg2 : listed.toList[i] = false := hg
  rw [hg2]
  simp
theorem up_all {listed : Array Bool} (h : up listed = listed.size) {i : Nat} (hi : i < listed.size) : listed.getD i false = true := by
  have h2 : listed.toList.count true = listed.toList.length := by simpa [up] using h
  have h3 := List.count_eq_length.1 h2 listed[i] (by simp)
  have : listed[i] = true := h3.symm
  simp [hi, this]
theorem up_le (listed : Array Bool) : up listed ≤ listed.size := by
  have := List.count_le_length (a := true) (l := listed.toList)
  simpa [up] using this
structure Kept (ops : Array Oper) (Γ : Nat → World → Value → Prop) (out : List Nat) (I : Nat → World → Prop) (n : Nat) (a0 : Act) (listed : Array Bool) (a : Act) (w : World) : Prop where
  size : listed.size = ops.size
  len : a.tmps.size = n
  defers : a.defers = a0.defers
  keep : ∀ t, (∀ (j : Nat) o, ops[j]? = some o → o.dst ≠ some t) → a.tmps.getD t undef = a0.tmps.getD t undef
  inv : I (up listed) w
  slots : ∀ (j : Nat) o d, ops[j]? = some o → o.dst = some d → listed.getD j false = true → Γ j w (a.tmps.getD d undef)
theorem some_ready {n : Nat} {out : List Nat} (hf : formB ops n out = true) {listed : Array Bool} (hs : listed.size = ops.size) (hr : Region.ready .any ops listed = []) : up listed = ops.size := by
  have hall : ∀ j, j < ops.size → listed.getD j false = true := by
    intro j
    induction j using Nat.strongRecOn with
    | ind j ih =>
      intro hj
      obtain ⟨o, ho⟩ : ∃ o, ops[j]? = some o := ⟨_, Array.getElem?_eq_getElem hj⟩
      cases hg : listed.getD j false
      · have hm : j ∈ Region.ready .any ops listed := by
          refine mem_ready.2 ⟨?_, o, ho, fun e he hb => ?_⟩
          · have hj2 : j < listed.size := by omega
            simpa [hj2] using hg
          · have := (formB_at hf ho).1 e he hb
            exact ih e.on this (by omega)
        rw [hr] at hm
        cases hm
      · rfl
  have h1 : listed.toList.count true = listed.toList.length := List.count_eq_length.2 fun b hb => by
    obtain ⟨i, hi, rfl⟩ := List.getElem_of_mem hb
    have hi2 : i < listed.size := by simpa using hi
    have := hall i (by omega)
    simpa [hi2] using this.symm
  simpa [up, hs] using h1
end
end Go.Proofs.Ythogonpjkngpjaa

namespace Go.Proofs.Ythogonpjkngpjaa
set_option maxRecDepth 100000
open Go.RowKit
section
variable {P : Program} {ops : Array Oper} {Q : Exit → Act → World → Prop}
def depsOf (ops : Array Oper) (j : Nat) : List Nat :=
  match ops[j]? with
  | none => []
  | some o => o.after.toList.filterMap fun e => if Region.binds .any e then some e.on else none
theorem depsOf_spec {j i : Nat} (h : i ∈ depsOf ops j) : ∃ o, ops[j]? = some o ∧ ∃ e ∈ o.after, e.on = i ∧ Region.binds .any e = true := by
  unfold depsOf at h
  split at h
  · cases h
  · rename_i o ho
    obtain ⟨e, he, hq⟩ := List.mem_filterMap.1 h
    split at hq
    · rename_i hb
      exact ⟨o, ho, e, by simpa using he, Option.some.inj hq, hb⟩
    · cases hq
def markOf (ops : Array Oper) : Nat → List Nat → List Nat
  | 0, M => M
  | i + 1, M => markOf ops i (if M.contains i then depsOf ops i ++ M else M)
theorem markOf_spec (S : Nat → Prop) (hS : ∀ j i, S j → i ∈ depsOf ops j → S i) : ∀ (i : Nat) (M : List Nat), (∀ j ∈ M, S j) → ∀ j ∈ markOf ops i M, S j
  | 0, _, h, j, hj => h j hj
  | i + 1, M, h, j, hj => by
    refine markOf_spec S hS i _ (fun l hl => ?_) j hj
    split at hl
    · rename_i hc
      rcases List.mem_append.1 hl with hl | hl
      · exact hS i l (h i (by simpa using hc)) hl
      · exact h l hl
    · exact h l hl
def thenB (ops : Array Oper) (n k : Nat) : Bool :=
  decide (k < ops.size) && ((List.range k).all fun j => (markOf ops (k + 1) [k]).contains j) && ((List.range ops.size).all fun j => match ops[j]? with
    | none => true
    | some o => o.after.all (fun e => !Region.binds .any e || decide (e.on < j)) && (if j < k then o.guard.isNone && (match o.dst with
        | none => true
        | some d => decide (d < n) && (List.range k).all fun i => decide (i = j) || decide ((ops[i]?).bind (·.dst) ≠ some d))
      else decide (j = k) || (depsOf ops j).contains (j - 1)))
theorem thenB_at {n k : Nat} (h : thenB ops n k = true) {j : Nat} {o : Oper} (ho : ops[j]? = some o) :
    (∀ e ∈ o.after, Region.binds .any e = true → e.on < j) ∧ (j < k → o.guard = none ∧ ∀ d, o.dst = some d → d < n ∧ ∀ i oi, i < k → ops[i]? = some oi → oi.dst = some d → i = j) ∧ (k < j → j - 1 ∈ depsOf ops j) := by
  have hj : j < ops.size := (Array.getElem?_eq_some_iff.1 ho).1
  simp only [thenB, Bool.and_eq_true] at h
  have h1 := List.all_eq_true.1 h.2 j (List.mem_range.2 hj)
  rw [ho] at h1
  simp only [Bool.and_eq_true] at h1
  refine ⟨fun e he hb => ?_, fun hjk => ?_, fun hkj => ?_⟩
  · have := Array.all_eq_true_iff_forall_mem.1 h1.1 e he
    simpa [hb] using this
  · have h2 := h1.2
    rw [if_pos hjk] at h2
    simp only [Bool.and_eq_true] at h2
    refine ⟨by simpa using h2.1, fun d hd => ?_⟩
    have h3 := h2.2
    rw [hd] at h3
    simp only [Bool.and_eq_true, decide_eq_true_eq] at h3
    refine ⟨h3.1, fun i oi hik hi hdi => ?_⟩
    have h4 := List.all_eq_true.1 h3.2 i (List.mem_range.2 hik)
    rw [hi] at h4
    simp only [Option.bind_some, hdi, ne_eq, not_true, decide_false, Bool.or_false, decide_eq_true_eq] at h4
    exact h4
  · have h2 := h1.2
    rw [if_neg (by omega)] at h2
    simp only [Bool.or_eq_true, decide_eq_true_eq, List.contains_eq_mem] at h2
    rcases h2 with h2 | h2
    · omega
    · exact h2
theorem thenB_all {n k : Nat} (h : thenB ops n k = true) (S : Nat → Prop) (hS : ∀ j i, S j → i ∈ depsOf ops j → S i) (hk : S k) : k < ops.size ∧ ∀ j, j < k → S j := by
  simp only [thenB, Bool.and_eq_true, decide_eq_true_eq] at h
  refine ⟨h.1.1, fun j hj => ?_⟩
  have h1 := List.all_eq_true.1 h.1.2 j (List.mem_range.2 hj)
  exact markOf_spec S hS (k + 1) [k] (fun l hl => by simp only [List.mem_singleton] at hl; subst hl; exact hk) j (by simpa using h1)
theorem wpAny_tail {n k : Nat} (hf : thenB ops n k = true) : ∀ (fuel q : Nat) (listed : Array Bool) (a : Act) (w : World), k ≤ q → q ≤ ops.size → listed.size = ops.size → (∀ i, i < ops.size → (listed.getD i false = true ↔ i < q)) → ops.size ≤ q + fuel →
    wpList P ops Q (ops.toList.drop q) a w → wpAny P .any ops Q fuel listed a w := by
  have only : ∀ (q : Nat) (listed : Array Bool), k ≤ q → listed.size = ops.size → (∀ i, i < ops.size → (listed.getD i false = true ↔ i < q)) → ∀ i, i ∈ Region.ready .any ops listed → i = q ∧ q < ops.size := by
    intro q listed hkq hs hl i hi
    obtain ⟨h0, o, ho, hall⟩ := mem_ready.1 hi
    have hi2 : i < ops.size := (Array.getElem?_eq_some_iff.1 ho).1
    have hi3 : i < listed.size := by omega
    have hif : listed.getD i false = false := by simpa [hi3] using h0
    have h1 : ¬ i < q := fun h => by rw [(hl i hi2).2 h] at hif; cases hif
    rcases Nat.lt_or_ge q i with h | h
    · obtain ⟨o', ho', e, he, heq, hb⟩ := depsOf_spec ((thenB_at hf ho).2.2 (by omega))
      obtain rfl : o = o' := Option.some.inj (ho.symm.trans ho')
      have := hall e he hb
      rw [heq] at this
      have := (hl (i - 1) (by omega)).1 this
      omega
    · exact ⟨by omega, by omega⟩
  intro fuel
  induction fuel with
  | zero =>
    intro q listed a w hkq hq hs hl hle hw
    refine ⟨?_, ?_⟩
    · cases hr : Region.ready .any ops listed with
      | nil => rfl
      | cons i l =>
        have := only q listed hkq hs hl i (by rw [hr]; simp)
        omega
    · rw [List.drop_eq_nil_of_le (by simp; omega)] at hw
      exact hw
  | succ fuel ih =>
    intro q listed a w hkq hq hs hl hle hw
    refine ⟨fun hr => ?_, fun i hi => ?_⟩
    · rcases Nat.lt_or_ge q ops.size with h | h
      · exfalso
        obtain ⟨o, ho⟩ : ∃ o, ops[q]? = some o := ⟨_, Array.getElem?_eq_getElem h⟩
        have hm : q ∈ Region.ready .any ops listed := by
          refine mem_ready.2 ⟨?_, o, ho, fun e he hb => ?_⟩
          · have h2 : q < listed.size := by omega
            have h3 : listed.getD q false = false := by
              cases hg : listed.getD q false
              · rfl
              · have := (hl q h).1 hg
                omega
            simpa [h2] using h3
          · have := (thenB_at hf ho).1 e he hb
            exact (hl e.on (by omega)).2 this
        rw [hr] at hm
        cases hm
      · rw [List.drop_eq_nil_of_le (by simp; omega)] at hw
        exact hw
    · obtain ⟨rfl, hlt⟩ := only q listed hkq hs hl i hi
      have ho : ops[i]? = some ops[i] := Array.getElem?_eq_getElem hlt
      have e : ops.toList.drop i = ops[i] :: ops.toList.drop (i + 1) := by
        rw [List.drop_eq_getElem_cons (by simpa using hlt)]
        simp
      rw [e] at hw
      have next : ∀ a' w', wpList P ops Q (ops.toList.drop (i + 1)) a' w' → wpAny P .any ops Q fuel (listed.setIfInBounds i true) a' w' := by
        intro a' w' h
        refine ih (i + 1) _ a' w' (by omega) (by omega) (by simpa using hs) (fun j hj => ?_) (by omega) h
        by_cases hji : j = i
        · subst hji
          simp [hs, hj]
        · rw [getD_set_ne (listed := listed) false (Ne.symm hji), hl j hj]
          omega
      unfold wpOp
      simp only [ho]
      unfold wpList at hw
      split
      · rename_i hwn
        rw [if_pos hwn] at hw
        rcases hw with hw | hw
        · exact .inl (Oper.wp_mono next hw)
        · exact .inr hw
      · rename_i hwn
        rw [if_neg hwn] at hw
        exact next _ _ hw
structure KeptTh (ops : Array Oper) (Γ : Nat → World → Value → Prop) (I : World → Prop) (n k : Nat) (a0 : Act) (listed : Array Bool) (a : Act) (w : World) : Prop where
  size : listed.size = ops.size
  len : a.tmps.size = n
  defers : a.defers = a0.defers
  keep : ∀ t, (∀ (j : Nat) o, j < k → ops[j]? = some o → o.dst ≠ some t) → a.tmps.getD t undef = a0.tmps.getD t undef
  none : ∀ i, k ≤ i → listed.getD i false = false
  closed : ∀ j, listed.getD j false = true → ∀ i ∈ depsOf ops j, listed.getD i false = true
  inv : I w
  slots : ∀ (j : Nat) o d, j < k → ops[j]? = some o → o.dst = some d → listed.getD j false = true → Γ j w (a.tmps.getD d undef)
theorem wpAny_then {Γ : Nat → World → Value → Prop} {I : World → Prop} {n k : Nat} {a0 : Act} (hf : thenB ops n k = true)
    (hop : ∀ (j : Nat) o, j < k → ops[j]? = some o → ∀ a w K, (∀ t, (∀ (j : Nat) o, j < k → ops[j]? = some o → o.dst ≠ some t) → a.tmps.getD t undef = a0.tmps.getD t undef) → (∀ p ∈ needOf ops j, Γ p.1 w (a.tmps.getD p.2 undef)) → I w →
      (∀ v w', Γ j w' v → (∀ i u, Γ i w u → Γ i w' u) → I w' → K (a.put o.dst v) w') → o.wp P a w K Q)
    (hend : ∀ a w, a.tmps.size = n → a.defers = a0.defers → (∀ t, (∀ (j : Nat) o, j < k → ops[j]? = some o → o.dst ≠ some t) → a.tmps.getD t undef = a0.tmps.getD t undef) →
      (∀ (j : Nat) o d, j < k → ops[j]? = some o → o.dst = some d → Γ j w (a.tmps.getD d undef)) → I w → wpList P ops Q (ops.toList.drop k) a w) :
    ∀ (fuel : Nat) (listed : Array Bool) (a : Act) (w : World), KeptTh ops Γ I n k a0 listed a w → ops.size ≤ up listed + fuel → wpAny P .any ops Q fuel listed a w := by
  have hks : k < ops.size := by
    simp only [thenB, Bool.and_eq_true, decide_eq_true_eq] at hf
    exact hf.1.1
  have notall : ∀ (listed : Array Bool) (a : Act) (w : World), KeptTh ops Γ I n k a0 listed a w → up listed = ops.size → False := by
    intro listed a w hk hu
    have := up_all (listed := listed) (by rw [hu, hk.size]) (i := k) (by rw [hk.size]; exact hks)
    rw [hk.none k (Nat.le_refl _)] at this
    cases this
  have nostop : ∀ (listed : Array Bool) (a : Act) (w : World), KeptTh ops Γ I n k a0 listed a w → Region.ready .any ops listed = [] → False := by
    intro listed a w hk hr
    have hall : ∀ j, j < ops.size → listed.getD j false = true := by
      intro j
      induction j using Nat.strongRecOn with
      | ind j ih =>
        intro hj
        obtain ⟨o, ho⟩ : ∃ o, ops[j]? = some o := ⟨_, Array.getElem?_eq_getElem hj⟩
        cases hg : listed.getD j false
        · have hm : j ∈ Region.ready .any ops listed := by
            refine mem_ready.2 ⟨?_, o, ho, fun e he hb => ?_⟩
            · have hj2 : j < listed.size := by rw [hk.size]; exact hj
              simpa [hj2] using hg
            · have := (thenB_at hf ho).1 e he hb
              exact ih e.on this (by omega)
          rw [hr] at hm
          cases hm
        · rfl
    have := hall k hks
    rw [hk.none k (Nat.le_refl _)] at this
    cases this
  intro fuel
  induction fuel with
  | zero =>
    intro listed a w hk hle
    exact (notall listed a w hk (by have := up_le listed; have := hk.size; omega)).elim
  | succ fuel ih =>
    intro listed a w hk hle
    refine ⟨fun hr => (nostop listed a w hk hr).elim, fun i hi => ?_⟩
    obtain ⟨h0, o, ho, hall⟩ := mem_ready.1 hi
    obtain ⟨hu, hil⟩ := up_set h0
    obtain ⟨hlt, hd, htail⟩ := thenB_at hf ho
    rcases Nat.lt_trichotomy i k with hik | hik | hik
    · obtain ⟨hg, hd⟩ := hd hik
      unfold wpOp
      simp only [ho]
      rw [if_pos (by simp [Region.wanted, hg])]
      left
      refine hop i o hik ho a w _ hk.keep (fun p hp => ?_) hk.inv ?_
      · obtain ⟨⟨e, he, hep, hb⟩, oj, hoj, hdj⟩ := needOf_spec ho hp
        exact hk.slots p.1 oj p.2 (by have := hlt e he hb; omega) hoj hdj (by rw [← hep]; exact hall e he hb)
      · intro v w' hv hR hI
        refine ih _ _ _ ⟨by simpa using hk.size, by rw [put_size]; exact hk.len, by rw [put_defers']; exact hk.defers, fun t ht => ?_, fun j hj => ?_, fun j hl l hl2 => ?_, hI, fun j oj d hjk hj hdj hl => ?_⟩ (by omega)
        · rw [put_other a v (ht i o hik ho)]
          exact hk.keep t ht
        · rw [getD_set_ne (listed := listed) false (by omega)]
          exact hk.none j hj
        · by_cases hji : j = i
          · subst hji
            obtain ⟨o', ho', e, he, heq, hb⟩ := depsOf_spec hl2
            obtain rfl : o = o' := Option.some.inj (ho.symm.trans ho')
            rw [← heq, getD_set_ne (listed := listed) false (by have := hlt e he hb; omega)]
            exact hall e he hb
          · rw [getD_set_ne (listed := listed) false (Ne.symm hji)] at hl
            have := hk.closed j hl l hl2
            by_cases hli : l = i
            · subst hli
              simp [hil]
            · rw [getD_set_ne (listed := listed) false (Ne.symm hli)]
              exact this
        · by_cases hji : j = i
          · subst hji
            obtain rfl : o = oj := Option.some.inj (ho.symm.trans hj)
            rw [hdj, put_own a v (hd d hdj).1 hk.len]
            exact hv
          · have hne : o.dst ≠ some d := fun e => hji ((hd d e).2 j oj hjk hj hdj)
            rw [put_other a v hne]
            refine hR j _ (hk.slots j oj d hjk hj hdj ?_)
            rw [← getD_set_ne (listed := listed) false (Ne.symm hji)]
            exact hl
    · subst hik
      have hdone : ∀ j, j < i → listed.getD j false = true := by
        have := (thenB_all hf (fun j => listed.getD j false = true ∨ j = i) (fun j l hj hl => ?_) (.inr rfl)).2
        · intro j hj
          rcases this j hj with h | h
          · exact h
          · omega
        · rcases hj with hj | rfl
          · exact .inl (hk.closed j hj l hl)
          · obtain ⟨o', ho', e, he, heq, hb⟩ := depsOf_spec hl
            obtain rfl : o = o' := Option.some.inj (ho.symm.trans ho')
            exact .inl (heq ▸ hall e he hb)
      have hw := hend a w hk.len hk.defers hk.keep (fun j oj d hjk hj hdj => hk.slots j oj d hjk hj hdj (hdone j hjk)) hk.inv
      have hup : up listed ≤ i := by
        have h1 : up listed = (listed.toList.take i).count true + (listed.toList.drop i).count true := by
          rw [up, ← List.count_append, List.take_append_drop]
        have h2 : (listed.toList.drop i).count true = 0 := by
          rw [List.count_eq_zero]
          intro hm
          obtain ⟨q, hq, he⟩ := List.getElem_of_mem hm
          simp at hq he
          have := hk.none (i + q) (by omega)
          simp at this
          rw [Array.getElem?_eq_getElem (by omega)] at this
          simp [he] at this
        have h3 := List.count_le_length (a := true) (l := listed.toList.take i)
        simp at h3
        omega
      have T := wpAny_tail (P := P) (Q := Q) hf (fuel + 1) i listed a w (Nat.le_refl _) (by omega) hk.size (fun j hj => Iff.intro (fun h => (by
        rcases Nat.lt_or_ge j i with h2 | h2
        · exact h2
        · rw [hk.none j h2] at h
          cases h)) (fun h => hdone j h)) (by omega) hw
      exact T.2 i hi
    · exfalso
      obtain ⟨o', ho', e, he, heq, hb⟩ := depsOf_spec (htail hik)
      obtain rfl : o = o' := Option.some.inj (ho.symm.trans ho')
      have := hall e he hb
      rw [heq, hk.none (i - 1) (by omega)] at this
      cases this
def dstsOf (ops : Array Oper) (k : Nat) : List (Nat × Nat) := (List.range k).filterMap fun j => ((ops[j]?).bind (·.dst)).map fun d => (j, d)
theorem dstsOf_mem {k : Nat} {p : Nat × Nat} : p ∈ dstsOf ops k ↔ p.1 < k ∧ ∃ o, ops[p.1]? = some o ∧ o.dst = some p.2 := by
  simp only [dstsOf, List.mem_filterMap, List.mem_range, Option.map_eq_some_iff, Option.bind_eq_some_iff]
  constructor
  · rintro ⟨j, hj, d, ⟨o, h1, h2⟩, rfl⟩
    exact ⟨hj, o, h1, h2⟩
  · rintro ⟨hj, o, h1, h2⟩
    exact ⟨p.1, hj, p.2, ⟨o, h1, h2⟩, rfl⟩
theorem getD_setT (l : Array Value) (j i : Nat) (v : Value) (hj : j < l.size) : (l.setIfInBounds j v).getD i undef = if i = j then v else l.getD i undef := by
  by_cases h : i = j
  · subst h
    simp [hj]
  · rw [if_neg h]
    simp only [Array.getD_eq_getD_getElem?, Array.getElem?_setIfInBounds, Ne.symm h, if_false]
theorem ext_getDT {l m : Array Value} (hs : l.size = m.size) (h : ∀ i, l.getD i undef = m.getD i undef) : l = m := by
  apply Array.ext hs
  intro i h1 h2
  have := h i
  simpa [h1, h2] using this
theorem act_eqT {a a' : Act} {n : Nat} (hsz : a'.tmps.size = n) (hdf : a'.defers = a.defers) : ∀ (l : List (Nat × Nat)) (f : Nat → Value) (b : Act), b.tmps.size = n → b.defers = a.defers → (∀ p ∈ l, p.2 < n ∧ a'.tmps.getD p.2 undef = f p.1) → (∀ t, (∀ p ∈ l, p.2 ≠ t) → a'.tmps.getD t undef = b.tmps.getD t undef) → a' = l.foldl (fun b p => b.put (some p.2) (f p.1)) b
  | [], f, b, hb, hbd, _, h => by
    obtain ⟨tm, df⟩ := a'
    obtain ⟨tb, db⟩ := b
    try simp only at hsz hb hbd hdf h
    subst hbd
    subst hdf
    have : tm = tb := ext_getDT (by omega) (fun i => h i (by simp))
    subst this
    rfl
  | (j, d) :: l, f, b, hb, hbd, hl, h => by
    have hd := hl (j, d) (by simp)
    refine act_eqT hsz hdf l f (b.put (some d) (f j)) (by show (b.tmps.setIfInBounds d (f j)).size = n; simp only [Array.size_setIfInBounds]; exact hb) hbd (fun p hp => hl p (by simp [hp])) (fun t ht => ?_)
    show _ = (b.tmps.setIfInBounds d (f j)).getD t undef
    rw [getD_setT _ _ _ _ (by have := hd.1; simp only at this; omega)]
    by_cases e : t = d
    · rw [if_pos e, e]
      exact hd.2
    · rw [if_neg e]
      refine h t (fun p hp => ?_)
      rcases List.mem_cons.1 hp with rfl | hp
      · exact Ne.symm e
      · exact ht p hp
theorem wp_region_then {id : Nat} {a : Act} {w : World} (hmx : P.follows .mixedOrders = true) (k n : Nat) (L : List (Nat × Nat)) (R : List Oper) (hf : thenB ops n k = true) (hL : dstsOf ops k = L) (hR : ops.toList.drop k = R) (Γ : Nat → World → Value → Prop) (I : World → Prop) (hn : a.tmps.size = n) (h0 : I { w with drawn := w.drawn + 1 })
    (hop : ∀ (j : Nat) o, j < k → ops[j]? = some o → ∀ a' w K, (∀ t, (∀ p ∈ L, p.2 ≠ t) → a'.tmps.getD t undef = a.tmps.getD t undef) → (∀ p ∈ needOf ops j, Γ p.1 w (a'.tmps.getD p.2 undef)) → I w →
      (∀ v w', Γ j w' v → (∀ i u, Γ i w u → Γ i w' u) → I w' → K (a'.put o.dst v) w') → o.wp P a' w K Q)
    (hend : ∀ (f : Nat → Value) w', (∀ p ∈ L, Γ p.1 w' (f p.1)) → I w' → wpList P ops Q R (L.foldl (fun b p => b.put (some p.2) (f p.1)) a) w') : (Code.region id ops true).wp P Q a w := by
  subst hL
  subst hR
  have keepL : ∀ (a' : Act), (∀ t, (∀ (j : Nat) o, j < k → ops[j]? = some o → o.dst ≠ some t) → a'.tmps.getD t undef = a.tmps.getD t undef) → ∀ t, (∀ p ∈ dstsOf ops k, p.2 ≠ t) → a'.tmps.getD t undef = a.tmps.getD t undef := by
    intro a' h t ht
    refine h t (fun j o hj ho hd => ?_)
    exact ht (j, t) (dstsOf_mem.2 ⟨hj, o, ho, hd⟩) rfl
  have hfl : ∀ j, (Array.replicate ops.size false).getD j false = false := by
    intro j
    simp [Array.getElem?_replicate]
    split <;> simp
  refine wp_region_any hmx (wpAny_then (Γ := Γ) (I := I) (n := n) (a0 := a) hf (fun j o hj ho a' w' K hk hnd hI hK => hop j o hj ho a' w' K (keepL a' hk) hnd hI hK) ?_ ops.size _ a _ ⟨by simp, hn, rfl, fun _ _ => rfl, fun i _ => hfl i, fun j hl => absurd hl (by rw [hfl j]; simp), h0, fun j o d _ _ _ hl => absurd hl (by rw [hfl j]; simp)⟩ (by omega))
  intro a' w' hsz hdf hk hs hI
  have hdst : ∀ p ∈ dstsOf ops k, Γ p.1 w' (a'.tmps.getD p.2 undef) ∧ p.2 < n := by
    intro p hp
    obtain ⟨h1, o, h2, h3⟩ := dstsOf_mem.1 hp
    exact ⟨hs p.1 o p.2 h1 h2 h3, (((thenB_at hf h2).2.1 h1).2 p.2 h3).1⟩
  obtain ⟨f, hfv⟩ : ∃ f : Nat → Value, ∀ p ∈ dstsOf ops k, f p.1 = a'.tmps.getD p.2 undef := by
    refine ⟨fun j => match (ops[j]?).bind (·.dst) with | some d => a'.tmps.getD d undef | none => undef, fun p hp => ?_⟩
    obtain ⟨_, o, h2, h3⟩ := dstsOf_mem.1 hp
    simp [h2, h3]
  have E := act_eqT hsz hdf (dstsOf ops k) f a hn rfl (fun p hp => ⟨(hdst p hp).2, (hfv p hp).symm⟩) (keepL a' hk)
  rw [E]
  exact hend f w' (fun p hp => by rw [hfv p hp]; exact (hdst p hp).1) hI
end
end Go.Proofs.Ythogonpjkngpjaa

namespace Go.Proofs.Ythogonpjkngpjaa
set_option maxRecDepth 100000
open Go.RowKit
section
variable {P : Program} {ops : Array Oper} {Q : Exit → Act → World → Prop}
def chainB (ops : Array Oper) (ch : List Nat) : Bool :=
  decide ch.Nodup && (List.range ch.length).all fun i => match ch[i]? with
    | none => true
    | some j => match ops[j]? with
      | none => false
      | some o => match i with
        | 0 => true
        | i' + 1 => o.after.toList.any fun e => Region.binds .any e && decide (ch[i']? = some e.on)
theorem chainB_at {ch : List Nat} (h : chainB ops ch = true) {i j : Nat} (hj : ch[i]? = some j) :
    ∃ o, ops[j]? = some o ∧ ∀ i', i = i' + 1 → ∃ e ∈ o.after, Region.binds .any e = true ∧ ch[i']? = some e.on := by
  have hi : i < ch.length := (List.getElem?_eq_some_iff.1 hj).1
  simp only [chainB, Bool.and_eq_true] at h
  have h1 := List.all_eq_true.1 h.2 i (List.mem_range.2 hi)
  rw [hj] at h1
  cases ho : ops[j]? with
  | none => simp [ho] at h1
  | some o =>
    refine ⟨o, rfl, ?_⟩
    rintro i' rfl
    simp only [ho] at h1
    obtain ⟨e, he, hp⟩ := List.any_eq_true.1 h1
    simp only [Bool.and_eq_true, decide_eq_true_eq] at hp
    exact ⟨e, by simpa using he, hp.1, hp.2⟩
def nextOf (ch : List Nat) (j m : Nat) : Nat := if ch.contains j then m + 1 else m
structure KeptC (ops : Array Oper) (Γ : Nat → World → Value → Prop) (ch : List Nat) (I : Nat → World → Prop) (n : Nat) (a0 : Act) (listed : Array Bool) (a : Act) (w : World) : Prop where
  size : listed.size = ops.size
  len : a.tmps.size = n
  defers : a.defers = a0.defers
  keep : ∀ t, (∀ (j : Nat) o, ops[j]? = some o → o.dst ≠ some t) → a.tmps.getD t undef = a0.tmps.getD t undef
  inv : ∃ m, (∀ (i j : Nat), ch[i]? = some j → (listed.getD j false = true ↔ i < m)) ∧ m ≤ ch.length ∧ I m w
  slots : ∀ (j : Nat) o d, ops[j]? = some o → o.dst = some d → listed.getD j false = true → Γ j w (a.tmps.getD d undef)
theorem getD_set_own {listed : Array Bool} {i : Nat} (h : i < listed.size) (d : Bool) : (listed.setIfInBounds i true).getD i d = true := by simp [h]
theorem wpAny_chain {Γ : Nat → World → Value → Prop} {out ch : List Nat} {I : Nat → World → Prop} {R : World → World → Prop} {n : Nat} {a0 : Act} (hf : formB ops n out = true) (hch : chainB ops ch = true)
    (hΓ : ∀ j w w' v, R w w' → Γ j w v → Γ j w' v)
    (hop : ∀ (j : Nat) o, ops[j]? = some o → ∀ m a w K, (∀ t ∈ out, a.tmps.getD t undef = a0.tmps.getD t undef) → (∀ p ∈ needOf ops j, Γ p.1 w (a.tmps.getD p.2 undef)) → (∀ i, ch[i]? = some j → i = m) → I m w →
      (∀ v w', Γ j w' v → R w w' → I (nextOf ch j m) w' → K (a.put o.dst v) w') → o.wp P a w K Q)
    (hend : ∀ a w, a.tmps.size = n → a.defers = a0.defers → (∀ t ∈ out, a.tmps.getD t undef = a0.tmps.getD t undef) → (∀ t, (∀ (j : Nat) o, ops[j]? = some o → o.dst ≠ some t) → a.tmps.getD t undef = a0.tmps.getD t undef) →
      (∀ (j : Nat) o d, ops[j]? = some o → o.dst = some d → Γ j w (a.tmps.getD d undef)) → I ch.length w → Q .normal a w) :
    ∀ (fuel : Nat) (listed : Array Bool) (a : Act) (w : World), KeptC ops Γ ch I n a0 listed a w → ops.size ≤ up listed + fuel → wpAny P .any ops Q fuel listed a w := by
  have fin : ∀ (listed : Array Bool) (a : Act) (w : World), KeptC ops Γ ch I n a0 listed a w → up listed = ops.size → Q .normal a w := by
    intro listed a w hk hu
    have hall : ∀ j, j < ops.size → listed.getD j false = true := fun j hj => up_all (by rw [hu, hk.size]) (by rw [hk.size]; exact hj)
    obtain ⟨m, hm, hml, hI⟩ := hk.inv
    have hme : m = ch.length := by
      rcases Nat.lt_or_ge m ch.length with h | h
      · obtain ⟨o, ho, _⟩ := chainB_at hch (List.getElem?_eq_getElem h)
        have := (hm m _ (List.getElem?_eq_getElem h)).1 (hall _ (Array.getElem?_eq_some_iff.1 ho).1)
        omega
      · omega
    subst hme
    refine hend a w hk.len hk.defers (fun t ht => hk.keep t (fun j oj hj hdj => ((formB_at hf hj).2.2 t hdj).2.1 ht)) hk.keep (fun j o d ho hd => hk.slots j o d ho hd ?_) hI
    exact hall j (Array.getElem?_eq_some_iff.1 ho).1
  intro fuel
  induction fuel with
  | zero =>
    intro listed a w hk hle
    have hu : up listed = ops.size := by have := up_le listed; have := hk.size; omega
    refine ⟨?_, fin listed a w hk hu⟩
    cases hr : Region.ready .any ops listed with
    | nil => rfl
    | cons i l =>
      have hm : i ∈ Region.ready .any ops listed := by rw [hr]; simp
      obtain ⟨h0, _⟩ := mem_ready.1 hm
      have := (up_set h0).1
      have h3 := up_le (listed.setIfInBounds i true)
      have h4 : (listed.setIfInBounds i true).size = listed.size := by simp
      have := hk.size
      omega
  | succ fuel ih =>
    intro listed a w hk hle
    refine ⟨fun hr => fin listed a w hk (some_ready hf hk.size hr), fun i hi => ?_⟩
    obtain ⟨h0, o, ho, hall⟩ := mem_ready.1 hi
    obtain ⟨hu, hil⟩ := up_set h0
    obtain ⟨hlt, hg, hd⟩ := formB_at hf ho
    obtain ⟨m, hm, hml, hI⟩ := hk.inv
    have hfalse : listed.getD i false = false := by simpa [hil] using h0
    have hnow : ∀ q, ch[q]? = some i → q = m := by
      intro q hq
      have h1 : ¬ q < m := fun h => by rw [(hm q i hq).2 h] at hfalse; cases hfalse
      cases q with
      | zero => omega
      | succ q' =>
        obtain ⟨o', ho', hprev⟩ := chainB_at hch hq
        obtain rfl : o = o' := Option.some.inj (ho.symm.trans ho')
        obtain ⟨e, he, hb, hce⟩ := hprev q' rfl
        have := (hm q' e.on hce).1 (hall e he hb)
        omega
    unfold wpOp
    simp only [ho]
    rw [if_pos (by simp [Region.wanted, hg])]
    left
    refine hop i o ho m a w _ (fun t ht => hk.keep t (fun j oj hj hdj => ?_)) (fun p hp => ?_) hnow hI ?_
    · exact ((formB_at hf hj).2.2 t hdj).2.1 ht
    · obtain ⟨⟨e, he, hep, hb⟩, oj, hoj, hdj⟩ := needOf_spec ho hp
      exact hk.slots p.1 oj p.2 hoj hdj (by rw [← hep]; exact hall e he hb)
    · intro v w' hv hR hI'
      refine ih _ _ _ ⟨by simpa using hk.size, by rw [put_size]; exact hk.len, by rw [put_defers']; exact hk.defers, fun t ht => ?_, ⟨nextOf ch i m, ?_, ?_, hI'⟩, fun j oj d hj hdj hl => ?_⟩ (by omega)
      · rw [put_other a v (ht i o ho)]
        exact hk.keep t ht
      · intro q j hq
        by_cases hji : j = i
        · subst hji
          have hqm := hnow q hq
          have hc : j ∈ ch := List.mem_of_getElem? hq
          rw [getD_set_own hil]
          simp [nextOf, hc, hqm]
        · rw [getD_set_ne (listed := listed) false (Ne.symm hji), hm q j hq]
          unfold nextOf
          split
          · rename_i hc
            obtain ⟨q', hq'⟩ := List.mem_iff_getElem?.1 (show i ∈ ch by simpa using hc)
            have h1 := hnow q' hq'
            have h2 : q ≠ m := fun e => hji (Option.some.inj ((e ▸ hq).symm.trans (h1 ▸ hq')))
            omega
          · exact Iff.rfl
      · unfold nextOf
        split
        · rename_i hc
          obtain ⟨q', hq'⟩ := List.mem_iff_getElem?.1 (show i ∈ ch by simpa using hc)
          have h1 := hnow q' hq'
          have := (List.getElem?_eq_some_iff.1 hq').1
          omega
        · exact hml
      · by_cases hji : j = i
        · subst hji
          obtain rfl : o = oj := Option.some.inj (ho.symm.trans hj)
          rw [hdj, put_own a v (hd d hdj).1 hk.len]
          exact hv
        · have hne : o.dst ≠ some d := fun e => hji ((hd d e).2.2 j oj hj hdj)
          rw [put_other a v hne]
          refine hΓ j w w' _ hR (hk.slots j oj d hj hdj ?_)
          rw [← getD_set_ne (listed := listed) false (Ne.symm hji)]
          exact hl
theorem wp_region_chain {id : Nat} {a : Act} {w : World} (hmx : P.follows .mixedOrders = true) (Γ : Nat → World → Value → Prop) (out ch : List Nat) (I : Nat → World → Prop) (R : World → World → Prop) (n : Nat) (hf : formB ops n out = true) (hch : chainB ops ch = true)
    (hn : a.tmps.size = n) (h0 : I 0 { w with drawn := w.drawn + 1 }) (hΓ : ∀ j w w' v, R w w' → Γ j w v → Γ j w' v)
    (hop : ∀ (j : Nat) o, ops[j]? = some o → ∀ m a' w K, (∀ t ∈ out, a'.tmps.getD t undef = a.tmps.getD t undef) → (∀ p ∈ needOf ops j, Γ p.1 w (a'.tmps.getD p.2 undef)) → (∀ i, ch[i]? = some j → i = m) → I m w →
      (∀ v w', Γ j w' v → R w w' → I (nextOf ch j m) w' → K (a'.put o.dst v) w') → o.wp P a' w K Q)
    (hend : ∀ a' w', a'.tmps.size = n → a'.defers = a.defers → (∀ t ∈ out, a'.tmps.getD t undef = a.tmps.getD t undef) → (∀ t, (∀ (j : Nat) o, ops[j]? = some o → o.dst ≠ some t) → a'.tmps.getD t undef = a.tmps.getD t undef) →
      (∀ (j : Nat) o d, ops[j]? = some o → o.dst = some d → Γ j w' (a'.tmps.getD d undef)) → I ch.length w' → Q .normal a' w') : (Code.region id ops true).wp P Q a w := by
  have hfl : ∀ j, (Array.replicate ops.size false).getD j false = false := by
    intro j
    simp [Array.getElem?_replicate]
    split <;> simp
  refine wp_region_any hmx (wpAny_chain (out := out) (ch := ch) (I := I) (R := R) (Γ := Γ) (n := n) (a0 := a) hf hch hΓ hop hend ops.size _ a _ ⟨by simp, hn, rfl, fun _ _ => rfl, ⟨0, fun i j _ => ?_, Nat.zero_le _, h0⟩, fun j o d _ _ hl => ?_⟩ (by omega))
  · rw [hfl j]
    simp
  · rw [hfl j] at hl
    cases hl
end
end Go.Proofs.Ythogonpjkngpjaa

namespace Go.Proofs.Ythogonpjkngpjaa
set_option maxRecDepth 100000
open Go.RowKit
section
variable {P : Program} {ops : Array Oper} {Q : Exit → Act → World → Prop}
structure KeptTC (ops : Array Oper) (Γ : Nat → World → Value → Prop) (ch : List Nat) (I : Nat → World → Prop) (n k : Nat) (a0 : Act) (listed : Array Bool) (a : Act) (w : World) : Prop where
  size : listed.size = ops.size
  len : a.tmps.size = n
  defers : a.defers = a0.defers
  keep : ∀ t, (∀ (j : Nat) o, j < k → ops[j]? = some o → o.dst ≠ some t) → a.tmps.getD t undef = a0.tmps.getD t undef
  none : ∀ i, k ≤ i → listed.getD i false = false
  closed : ∀ j, listed.getD j false = true → ∀ i ∈ depsOf ops j, listed.getD i false = true
  inv : ∃ m, (∀ (i j : Nat), ch[i]? = some j → (listed.getD j false = true ↔ i < m)) ∧ m ≤ ch.length ∧ I m w
  slots : ∀ (j : Nat) o d, j < k → ops[j]? = some o → o.dst = some d → listed.getD j false = true → Γ j w (a.tmps.getD d undef)
end
end Go.Proofs.Ythogonpjkngpjaa

namespace Go.Proofs.Ythogonpjkngpjaa
set_option maxRecDepth 100000
open Go.RowKit
structure Cur (w : World) (g : Nat) (A : Option Addr) (c : Nat) (bs : List UInt8) (t : Nat) : Prop where
  blk : ∃ seed : Nat, seed < 65521 ∧ w.heap[g]? = some (.cells #[.slice A bs.length c, .int .i64 (t : Int), .int .i64 (seed : Int)] 116 (0, 0))
  rb : RB w g A bs
  small : bs.length ≤ 1048576
section
variable {w w' : World} {g : Nat} {A : Option Addr} {c : Nat} {bs : List UInt8} {t : Nat}
theorem Cur.lt (h : Cur w g A c bs t) : g < w.heap.size := by
  obtain ⟨seed, _, hb⟩ := h.blk
  exact (Array.getElem?_eq_some_iff.1 hb).1
theorem RB.grownBy {B : Nat} {row : Nat} (h : RB w B A bs) (hg : w.grownBy w' (some row)) (hB : B ≤ row) : RB w' B A bs := by
  intro hp
  obtain ⟨b, o, e, hb, hc⟩ := h hp
  refine ⟨b, o, e, hb, fun j u hu => ?_⟩
  exact hg.cell (hc j u hu) (by simp; omega)
theorem Cur.setAt (h : Cur w g A c bs t) (t' : Nat) : Cur (w.setCell ⟨g, 1, none⟩ (.int .i64 (t' : Int))) g A c bs t' ∧ w.grownBy (w.setCell ⟨g, 1, none⟩ (.int .i64 (t' : Int))) (some g) := by
  have hg : w.grownBy (w.setCell ⟨g, 1, none⟩ (.int .i64 (t' : Int))) (some g) := ⟨rfl, rfl, rfl, by simp, fun k _ hk => heap_setCell_other w ⟨g, 1, none⟩ k _ (fun e => hk (by simp [e]))⟩
  obtain ⟨seed, hs, hb⟩ := h.blk
  refine ⟨⟨⟨seed, hs, ?_⟩, h.rb.grownBy hg (Nat.le_refl _), h.small⟩, hg⟩
  rw [heap_setCell_same w g 1 _ _ _ hb]
  rfl
theorem Cur.setSeed (h : Cur w g A c bs t) (s' : Nat) (hs' : s' < 65521) : Cur (w.setCell ⟨g, 2, none⟩ (.int .i64 (s' : Int))) g A c bs t ∧ w.grownBy (w.setCell ⟨g, 2, none⟩ (.int .i64 (s' : Int))) (some g) := by
  have hg : w.grownBy (w.setCell ⟨g, 2, none⟩ (.int .i64 (s' : Int))) (some g) := ⟨rfl, rfl, rfl, by simp, fun k _ hk => heap_setCell_other w ⟨g, 2, none⟩ k _ (fun e => hk (by simp [e]))⟩
  obtain ⟨seed, hs, hb⟩ := h.blk
  refine ⟨⟨⟨s', hs', ?_⟩, h.rb.grownBy hg (Nat.le_refl _), h.small⟩, hg⟩
  rw [heap_setCell_same w g 2 _ _ _ hb]
  rfl
theorem Cur.cells (h : Cur w g A c bs t) : ∃ seed : Nat, seed < 65521 ∧ w.cell? ⟨g, 0, none⟩ = some (.slice A bs.length c) ∧ w.cell? ⟨g, 1, none⟩ = some (.int .i64 (t : Int)) ∧ w.cell? ⟨g, 2, none⟩ = some (.int .i64 (seed : Int)) ∧
    (∀ i, w.frozen? ⟨g, i, none⟩ = false) := by
  obtain ⟨seed, hs, hb⟩ := h.blk
  refine ⟨seed, hs, ?_, ?_, ?_, fun i => frozen_of_row w g i _ _ hb⟩ <;> (rw [cell_of_row w g _ _ _ (0, 0) hb]; rfl)
theorem Cur.drewN (h : Cur w g A c bs t) (n : Nat) : Cur (w.drewN n) g A c bs t := ⟨h.blk, h.rb, h.small⟩
theorem Cur.grownBy {row : Option Nat} (h : Cur w g A c bs t) (hg : w.grownBy w' row) (hrow : ∀ k, row = some k → g < k) : Cur w' g A c bs t := by
  obtain ⟨seed, hs, hb⟩ := h.blk
  refine ⟨⟨seed, hs, (hg.block g h.lt (fun e => by have := hrow g e.symm; omega)).trans hb⟩, ?_, h.small⟩
  intro hp
  obtain ⟨b, o, e, hlt, hc⟩ := h.rb hp
  exact ⟨b, o, e, hlt, fun j u hu => hg.cell (hc j u hu) (fun e => by have := hrow b e.symm; omega)⟩
theorem Cur.below (h : Cur w g A c bs t) (hb : Below w.heap.size w w') : Cur w' g A c bs t :=
  h.grownBy (row := none) ⟨hb.os, hb.tape, hb.output, hb.size, fun k hk _ => hb.block k hk⟩ (by simp)
end
theorem draw_range (x m : Int) (h0 : 0 ≤ x) (h1 : x ≤ 1099511627776) (hm : 2 ≤ m) : 0 ≤ (wrap64 x).tmod m ∧ (wrap64 x).tmod m ≤ m - 1 := by
  rw [IntWalk.wrap64_in x (by omega), Int.tmod_eq_emod_of_nonneg h0]
  have := Int.emod_nonneg x (show m ≠ 0 by omega)
  have := Int.emod_lt_of_pos x (show 0 < m by omega)
  omega
theorem grownBy_set (w : World) (g i : Nat) (v : Value) : w.grownBy (w.setCell ⟨g, i, none⟩ v) (some g) :=
  ⟨rfl, rfl, rfl, by simp, fun k _ hk => heap_setCell_other w ⟨g, i, none⟩ k v (fun e => hk (by simp [e]))⟩
theorem step_grown (w : World) (g i n : Nat) (v : Value) : w.grownBy ((w.drewN n).setCell ⟨g, i, none⟩ v) (some g) :=
  ⟨rfl, rfl, rfl, by simp, fun k _ hk => heap_setCell_other (w.drewN n) ⟨g, i, none⟩ k v (fun e => hk (by simp [e]))⟩
end Go.Proofs.Ythogonpjkngpjaa

namespace Go.Proofs.Ythogonpjkngpjaa
set_option maxRecDepth 100000
open Go.RowKit
theorem only_new {a w : World} {row : Option Nat} (h : a.grownBy w row) (o : Obj) : a.grownBy (w.alloc o) row :=
  ⟨h.os, h.tape, h.output, Nat.le_trans h.size (by simp), fun i hi hne => (Below.heap_alloc w o i (Nat.lt_of_lt_of_le hi h.size)).trans (h.block i hi hne)⟩
theorem grown_other {a b c : World} {row row' : Option Nat} (h : a.grownBy b row) (k : b.grownBy c row') (hr : ∀ u, row' = some u → a.heap.size ≤ u) : a.grownBy c row :=
  ⟨k.os.trans h.os, k.tape.trans h.tape, k.output.trans h.output, Nat.le_trans h.size k.size, fun i hi hne => (k.block i (Nat.lt_of_lt_of_le hi h.size) (fun e => by have := hr i e.symm; omega)).trans (h.block i hi hne)⟩
theorem emod_range (x m : Int) (hm : 1 ≤ m) : 0 ≤ x % m ∧ x % m ≤ m - 1 := by
  have := Int.emod_nonneg x (show m ≠ 0 by omega)
  have := Int.emod_lt_of_pos x (show 0 < m by omega)
  omega
end Go.Proofs.Ythogonpjkngpjaa

namespace Go.Proofs.Ythogonpjkngpjaa
set_option maxRecDepth 100000
open Go.RowKit
structure CurS (w : World) (g : Nat) (A : Option Addr) (c : Nat) (bs : List UInt8) (t s : Nat) : Prop where
  seed : s < 65521
  blk : w.heap[g]? = some (.cells #[.slice A bs.length c, .int .i64 (t : Int), .int .i64 (s : Int)] 116 (0, 0))
  rb : RB w g A bs
  small : bs.length ≤ 1048576
section
variable {w w' : World} {g : Nat} {A : Option Addr} {c : Nat} {bs : List UInt8} {t s : Nat}
theorem CurS.lt (h : CurS w g A c bs t s) : g < w.heap.size := (Array.getElem?_eq_some_iff.1 h.blk).1
theorem CurS.cells (h : CurS w g A c bs t s) : w.cell? ⟨g, 0, none⟩ = some (.slice A bs.length c) ∧ w.cell? ⟨g, 1, none⟩ = some (.int .i64 (t : Int)) ∧ w.cell? ⟨g, 2, none⟩ = some (.int .i64 (s : Int)) ∧ (∀ i, w.frozen? ⟨g, i, none⟩ = false) := by
  refine ⟨?_, ?_, ?_, fun i => frozen_of_row w g i _ _ h.blk⟩ <;> (rw [cell_of_row w g _ _ _ (0, 0) h.blk]; rfl)
theorem CurS.drewN (h : CurS w g A c bs t s) (n : Nat) : CurS (w.drewN n) g A c bs t s := ⟨h.seed, h.blk, h.rb, h.small⟩
theorem CurS.grownBy {row : Option Nat} (h : CurS w g A c bs t s) (hg : w.grownBy w' row) (hrow : ∀ k, row = some k → g < k) : CurS w' g A c bs t s := by
  refine ⟨h.seed, (hg.block g h.lt (fun e => by have := hrow g e.symm; omega)).trans h.blk, ?_, h.small⟩
  intro hp
  obtain ⟨b, o, e, hlt, hc⟩ := h.rb hp
  exact ⟨b, o, e, hlt, fun j u hu => hg.cell (hc j u hu) (fun e => by have := hrow b e.symm; omega)⟩
theorem CurS.below (h : CurS w g A c bs t s) (hb : Below w.heap.size w w') : CurS w' g A c bs t s :=
  h.grownBy (row := none) ⟨hb.os, hb.tape, hb.output, hb.size, fun k hk _ => hb.block k hk⟩ (by simp)
theorem CurS.setAt (h : CurS w g A c bs t s) (t' : Nat) : CurS (w.setCell ⟨g, 1, none⟩ (.int .i64 (t' : Int))) g A c bs t' s := by
  refine ⟨h.seed, ?_, h.rb.grownBy (grownBy_set w g 1 _) (Nat.le_refl _), h.small⟩
  rw [heap_setCell_same w g 1 _ _ _ h.blk]
  rfl
theorem CurS.setSeed (h : CurS w g A c bs t s) (s' : Nat) (hs : s' < 65521) : CurS (w.setCell ⟨g, 2, none⟩ (.int .i64 (s' : Int))) g A c bs t s' := by
  refine ⟨hs, ?_, h.rb.grownBy (grownBy_set w g 2 _) (Nat.le_refl _), h.small⟩
  rw [heap_setCell_same w g 2 _ _ _ h.blk]
  rfl
theorem CurS.next (h : CurS w g A c bs t s) : CurS (w.setCell ⟨g, 1, none⟩ (.int .i64 ((t : Int) + 1))) g A c bs (t + 1) s := h.setAt (t + 1)
end
def nx (s : Nat) : Nat := (s * 1103 + 12345) % 65521
def byteAt (bs : List UInt8) (i : Nat) : Int := (((bs[i]?).getD 0).toNat : Int)
def pickX (bs : List UInt8) (t s : Nat) (m : Int) : Int :=
  if t < bs.length then (wrap64 (byteAt bs t)).tmod m else if bs.length = 0 then 0 else (wrap64 ((nx s : Int) / 7 + wrap64 (byteAt bs (t % bs.length)))).tmod m
def pickS (bs : List UInt8) (t s : Nat) : Nat := if t < bs.length then s else nx s
theorem byteAt_get (bs : List UInt8) (i : Nat) (h : i < bs.length) : byteAt bs i = (bs[i].toNat : Int) := by simp [byteAt, h]
theorem byteAt_range (bs : List UInt8) (i : Nat) : 0 ≤ byteAt bs i ∧ byteAt bs i ≤ 255 := by
  unfold byteAt
  have := UInt8.toNat_lt ((bs[i]?).getD 0)
  omega
theorem nx_lt (s : Nat) : nx s < 65521 := Nat.mod_lt _ (by decide)
theorem pickX_range (bs : List UInt8) (t s : Nat) (m : Int) (hm : 2 ≤ m) : 0 ≤ pickX bs t s m ∧ pickX bs t s m ≤ m - 1 := by
  unfold pickX
  split
  · have := byteAt_range bs t
    exact draw_range _ m (by omega) (by omega) hm
  · split
    · omega
    · have := byteAt_range bs (t % bs.length)
      have := nx_lt s
      exact draw_range _ m (by rw [IntWalk.wrap64_in _ (by omega)]; omega) (by rw [IntWalk.wrap64_in _ (by omega)]; omega) hm
def Gives (w : World) (g : Nat) (A : Option Addr) (c : Nat) (bs : List UInt8) (t' s' : Nat) (x : Int) (e : Ending) (w' : World) : Prop :=
  e = .returned (.int .i64 x) ∧ CurS w' g A c bs t' s' ∧ w.grownBy w' (some g)
set_option maxRecDepth 100000 in
set_option maxHeartbeats 1000000 in
theorem pickD (w : World) (g : Nat) (A : Option Addr) (c : Nat) (bs : List UInt8) (t s : Nat) (m : Int) (hm : 2 ≤ m) (hmb : m ≤ 1099511627776) (hc : CurS w g A c bs t s) (ht : t ≤ 1099511627776) :
    Calls Try.prog 57 #[.pointer (some ⟨g, 0, none⟩), .int .i64 m] w (Gives w g A c bs (t + 1) (pickS bs t s) (pickX bs t s m)) := by
  obtain ⟨c0, c1, c2, cf⟩ := hc.cells
  have f1 := cf 1
  have f2 := cf 2
  have hsm := hc.small
  have hs := hc.seed
  clear cf
  by_cases hlt : t < bs.length
  · obtain ⟨b, o, rfl, hb, hcell⟩ := hc.rb.at_ hlt
    have hltI : (t : Int) < (bs.length : Int) := by omega
    have HX := Lib.hid (show pickX bs t s m = (wrap64 (bs[t].toNat : Int)).tmod m by rw [pickX, if_pos hlt, byteAt_get bs t hlt])
    have HS := Lib.hid (show pickS bs t s = s by rw [pickS, if_pos hlt])
    go_enter Try.func57, Try.ntmps57
    go_wp2
    go_quiet (fail)
    go_wp2
    go_quiet (fail)
    go_wp2
    go_ret
    refine ⟨ret_int ?_, ?_, step_grown _ _ _ _ _⟩
    · rw [HX.out]
    · rw [HS.out]; exact (hc.drewN _).next
  · have hltI : ¬ (t : Int) < (bs.length : Int) := by omega
    obtain ⟨s', hs', he⟩ : ∃ s' : Nat, s' < 65521 ∧ ((s : Int) * 1103 + 12345) % 65521 = s' := ⟨(((s : Int) * 1103 + 12345) % 65521).toNat, by omega, by omega⟩
    have hnx : nx s = s' := by unfold nx; omega
    have HS := Lib.hid (show pickS bs t s = s' by rw [pickS, if_neg hlt, hnx])
    by_cases hz : bs.length = 0
    · have hzI : ¬ (0 : Int) < (bs.length : Int) := by omega
      have HX := Lib.hid (show pickX bs t s m = 0 by rw [pickX, if_neg hlt, if_pos hz])
      go_enter Try.func57, Try.ntmps57
      go_wp2
      go_quiet (fail)
      go_wp2
      go_ret
      refine ⟨ret_int ?_, ?_, grownBy_trans (step_grown w g 2 _ _) (grownBy_set _ g 1 _)⟩
      · rw [HX.out]
      · rw [HS.out]; exact ((hc.drewN _).setSeed s' hs').next
    · have hzI : (0 : Int) < (bs.length : Int) := by omega
      obtain ⟨r, hrr, hr, hmod⟩ : ∃ r : Nat, t % bs.length = r ∧ r < bs.length ∧ (t : Int).tmod (bs.length : Int) = r := by
        refine ⟨t % bs.length, rfl, Nat.mod_lt _ (by omega), ?_⟩
        rw [Int.tmod_eq_emod_of_nonneg (by omega)]
        exact (Int.natCast_emod t bs.length).symm
      have HX := Lib.hid (show pickX bs t s m = (wrap64 ((s' : Int) / 7 + wrap64 (bs[r].toNat : Int))).tmod m by rw [pickX, if_neg hlt, if_neg hz, hnx, hrr, byteAt_get bs r hr])
      obtain ⟨b, o, rfl, hb, hcell⟩ := hc.rb.at_ hr
      have hrI : (r : Int) < (bs.length : Int) := by omega
      have hr0 : (0 : Int) ≤ (r : Int) := by omega
      have hne : ¬ b = g := by omega
      have hne0 : ¬ (bs.length : Int) = 0 := by omega
      clear hrr hnx
      go_enter Try.func57, Try.ntmps57
      go_wp2
      go_quiet (fail)
      go_wp2
      go_quiet (fail)
      go_wp2
      go_ret
      refine ⟨ret_int ?_, ?_, grownBy_trans (step_grown w g 2 _ _) (step_grown _ g 1 _ _)⟩
      · rw [HX.out]
      · rw [HS.out]; exact (((hc.drewN _).setSeed s' hs').drewN _).next
end Go.Proofs.Ythogonpjkngpjaa

namespace Go.Proofs.Ythogonpjkngpjaa
set_option maxRecDepth 100000
open Go.RowKit
theorem own_byte1 (w : World) (base : Nat) (hb : base ≤ w.heap.size) (x : Int) (b : UInt8) (h : (b.toNat : Int) = x) :
    (w.alloc (.cells #[.int .u8 x] 5)).ownsRow base 5 1 (.slice (some ⟨w.heap.size, 0, none⟩) 1 1) [b].length (cellsOf [b]) := by
  subst h
  exact World.ownsRow_lit w #[.int .u8 (b.toNat : Int)] 1 hb (by decide) rfl
end Go.Proofs.Ythogonpjkngpjaa
