/-
  Small facts on memory that the walks of this seat share: a slice of bytes that reads as a list, rows of the call's own. Nothing here speaks of the program. 'append' onto a row of bytes of the call's own, from whatever source of bytes. What the laws' own four helpers on slices of bytes do: a copy, a comparison, a marking, a look at the marks. A slice of bytes that came in: what the walk is told of it, out of its reading. What Put16 and Put32 make, in the program and in the model. What Be16 and Be32 read, in the program and in the model. Addresses as five integers and as sixteen bytes, the bits after the first n cleared. Plain: nothing here speaks of the program. An address and a prefix that came in: what the walk is told of them, out of their reading. The sums of chapter 2 as plain functions. Nothing here speaks of the program. The laws' own copy of bytes by 'append'; slices of rows of bytes. IPv4 packets as seven integers, two addresses, options and a body. Plain: nothing here speaks of the program. Upper layers as eleven integers, a bool, options and a body. Plain: nothing here speaks of the program.
-/
import Derived.WalkKit
import Derived.Deep.Draws
import Derived.Lib.Hide
import Derived.Test.YthogonpjkngpjaaProg
import Derived.Outline
import Derived.Maps.AppendAt
import Derived.Deep.RegionLaw
import Derived.Deep.RegionHeld3
import Derived.Deep.QuietTactic
import Derived.BigQuiet
import Derived.ProofKit
import Derived.OpenShut
import Derived.Laws.BitsAllLaws
import Derived.Laws.BitsLemmas
namespace Go.Proofs.Ythogonpjkngpjaa
set_option maxRecDepth 100000
open Go.RowKit

/-- The cells of a list of bytes. -/
def cellsOf (bs : List UInt8) : List Value := bs.map fun b => .int .u8 (b.toNat : Int)

/-- The slice that begins at A reads as the bytes bs, and lies below block number B. -/
def RB (w : World) (B : Nat) (A : Option Addr) (bs : List UInt8) : Prop :=
  0 < bs.length → ∃ g o, A = some ⟨g, o, none⟩ ∧ g < B ∧ ∀ j (u : UInt8), bs[j]? = some u → w.cell? ⟨g, o + j, none⟩ = some (.int .u8 (u.toNat : Int))

theorem cellsOf_length (bs : List UInt8) : (cellsOf bs).length = bs.length := by simp [cellsOf]
theorem cellsOf_get (bs : List UInt8) (j : Nat) (u : UInt8) (h : bs[j]? = some u) : (cellsOf bs)[j]? = some (.int .u8 (u.toNat : Int)) := by simp [cellsOf, h]
theorem cellsOf_append (a b : List UInt8) : cellsOf (a ++ b) = cellsOf a ++ cellsOf b := by simp [cellsOf]
theorem cellsOf_one (bs : List UInt8) : ∀ u ∈ cellsOf bs, u.oneCell' = true := by
  intro u hu
  simp only [cellsOf, List.mem_map] at hu
  obtain ⟨b, _, rfl⟩ := hu
  rfl

section
variable {w w' : World} {B B' : Nat} {A : Option Addr} {bs : List UInt8}

theorem RB.below (h : RB w B A bs) (hb : Below B w w') : RB w' B A bs := by
  intro hp
  obtain ⟨g, o, e, hg, hc⟩ := h hp
  exact ⟨g, o, e, hg, fun j u hu => (hb.cell (p := ⟨g, o + j, none⟩) hg).trans (hc j u hu)⟩

theorem RB.more (h : RB w B A bs) (hB : B ≤ B') : RB w B' A bs := by
  intro hp
  obtain ⟨g, o, e, hg, hc⟩ := h hp
  exact ⟨g, o, e, by omega, hc⟩

theorem RB.at_ (h : RB w B A bs) {k : Nat} (hk : k < bs.length) : ∃ g o, A = some ⟨g, o, none⟩ ∧ g < B ∧ w.cell? ⟨g, o + k, none⟩ = some (.int .u8 (bs[k].toNat : Int)) := by
  obtain ⟨g, o, e, hg, hc⟩ := h (by omega)
  exact ⟨g, o, e, hg, hc k _ (List.getElem?_eq_getElem hk)⟩

theorem RB.nil_ (w : World) (B : Nat) (A : Option Addr) : RB w B A [] := fun h => absurd h (by simp)

theorem RB.of_own {base : Nat} {e : TypeId} {n c : Nat} (h : w.ownsRow base e 1 (.slice A n c) n (cellsOf bs)) : RB w w.heap.size A bs := by
  intro hp
  have hl := h.1
  rw [cellsOf_length] at hl
  rcases h.2 with ⟨h1, h2⟩ | ⟨g, cap, cur, hv, _, hg, _⟩
  · omega
  · injection hv with hA hn hc
    subst hA
    subst hc
    refine ⟨g, 0, rfl, (Array.getElem?_eq_some_iff.1 hg).1, fun j u hu => ?_⟩
    have hj : j < bs.length := by
      rcases Nat.lt_or_ge j bs.length with h | h
      · exact h
      · rw [List.getElem?_eq_none h] at hu; cases hu
    have := h.cellAt j (by omega)
    rw [Nat.zero_add, this]
    exact cellsOf_get bs j u hu
end

/-- What a world owns stays owned in a world that is as it was below all its blocks. -/
theorem own_below {w w' : World} {base : Nat} {e : TypeId} {size n : Nat} {v : Value} {xs : List Value} (h : w.ownsRow base e size v n xs) (hb : Below w.heap.size w w') : w'.ownsRow base e size v n xs := by
  refine ⟨h.1, ?_⟩
  rcases h.2 with hn | ⟨g, cap, cur, rfl, hbase, hg, rest⟩
  · exact .inl hn
  · exact .inr ⟨g, cap, cur, rfl, hbase, (hb.block g (Array.getElem?_eq_some_iff.1 hg).1).trans hg, rest⟩

theorem own_base {w : World} {base base' : Nat} {e : TypeId} {size n : Nat} {v : Value} {xs : List Value} (h : w.ownsRow base e size v n xs) (hb : base' ≤ base) : w.ownsRow base' e size v n xs := by
  refine ⟨h.1, ?_⟩
  rcases h.2 with hn | ⟨g, cap, cur, rfl, hbase, rest⟩
  · exact .inl hn
  · exact .inr ⟨g, cap, cur, rfl, by omega, rest⟩

theorem below_drewN {B : Nat} {a w : World} (h : Below B a w) (n : Nat) : Below B a (w.drewN n) := ⟨h.os, h.tape, h.output, h.size, h.block⟩

theorem ret_int {k : IntKind} {a b : Int} (h : a = b) : Ending.returned (.int k a) = .returned (.int k b) := by rw [h]
theorem ret_bool {a b : Bool} (h : a = b) : Ending.returned (.bool a) = .returned (.bool b) := by rw [h]

theorem set_mid (a : List Value) (x v : Value) (t : List Value) (k : Nat) (hk : a.length = k) : (a ++ x :: t).set k v = a ++ v :: t := by
  subst hk
  simp

/-- A row that is being filled: one cell more. -/
theorem fill_step (pre tail : List UInt8) (x b : UInt8) (k : Nat) (hk : pre.length = k) :
    (cellsOf (pre ++ x :: tail)).set k (.int .u8 (b.toNat : Int)) = cellsOf ((pre ++ [b]) ++ tail) := by
  have h := set_mid (cellsOf pre) (.int .u8 (x.toNat : Int)) (.int .u8 (b.toNat : Int)) (cellsOf tail) k (by rw [cellsOf_length]; exact hk)
  simpa [cellsOf] using h

theorem take_snoc {T : Type} (l : List T) (k : Nat) (h : k < l.length) : l.take (k + 1) = l.take k ++ [l[k]] := List.take_succ_eq_append_getElem h

theorem copy_step (bs : List UInt8) (k : Nat) (h : k < bs.length) :
    (cellsOf (bs.take k ++ List.replicate (bs.length - k) 0)).set k (.int .u8 (bs[k].toNat : Int)) = cellsOf (bs.take (k + 1) ++ List.replicate (bs.length - (k + 1)) 0) := by
  rw [show bs.length - k = (bs.length - (k + 1)) + 1 by omega, List.replicate_succ, fill_step _ _ _ _ k (by simp; omega), take_snoc bs k h]

/-- What is owned is a slice of that length. -/
theorem own_form {w : World} {base : Nat} {e : TypeId} {size n : Nat} {v : Value} {xs : List Value} (h : w.ownsRow base e size v n xs) : ∃ A c, v = .slice A n c := by
  rcases h.2 with ⟨rfl, rfl⟩ | ⟨g, cap, cur, rfl, _⟩
  · exact ⟨_, _, rfl⟩
  · exact ⟨_, _, rfl⟩
theorem bthen {a b c : World} (h : Below a.heap.size a b) (k : Below b.heap.size b c) : Below a.heap.size a c := h.trans (k.mono h.size)
theorem bgrown {a b c : World} {row : Option Nat} (h : Below a.heap.size a b) (g : b.grownBy c row) (l : ∀ k, row = some k → a.heap.size ≤ k) : Below a.heap.size a c := h.grown g h.size l

/-- What is owned from a block on which w' has kept is owned there still, whatever other row has turned. -/
theorem own_grown {w w' : World} {base : Nat} {e : TypeId} {size n : Nat} {v : Value} {xs : List Value} {row : Option Nat} (h : w.ownsRow base e size v n xs) (hg : w.grownBy w' row) (hne : ∀ k, v.ownBlock = some k → row ≠ some k) : w'.ownsRow base e size v n xs := by
  refine h.kept hg ?_
  cases hv : v.ownBlock with
  | none => exact .inl rfl
  | some k => exact .inr (fun e => hne k hv e.symm)

end Go.Proofs.Ythogonpjkngpjaa

namespace Go.Proofs.Ythogonpjkngpjaa
set_option maxRecDepth 100000
open Go.RowKit

theorem info_u8 : (Try.prog.info? 5).map (fun i => (i.zero, i.size, i.bytes)) = some (some (.int .u8 0), 1, 1) := by kernel_rfl

theorem grownBy_trans {a b c : World} {row : Option Nat} (h : a.grownBy b row) (k : b.grownBy c row) : a.grownBy c row :=
  ⟨k.os.trans h.os, k.tape.trans h.tape, k.output.trans h.output, Nat.le_trans h.size k.size, fun i hi hne => (k.block i (Nat.lt_of_lt_of_le hi h.size) hne).trans (h.block i hi hne)⟩

theorem addr_add (g o j : Nat) : (⟨g, o, none⟩ : Addr).add j = ⟨g, o + j, none⟩ := by
  unfold Addr.add
  split <;> simp_all

set_option maxRecDepth 100000 in
theorem run_append_b (w : World) (ty base : Nat) (v : Value) (bs : List UInt8) (hown : w.ownsRow base 5 1 v bs.length (cellsOf bs)) (B : Nat) (A : Option Addr) (m c : Nat) (ds : List UInt8) (hm : ds.length = m) (hr : RB w B A ds)
    (hn : bs.length + ds.length ≤ 67108864) (hbase : base ≤ w.heap.size) :
    ∃ v' w', (Builtin.append_ #[34, 34] ty #[v, .slice A m c]).run Try.prog w = .ok v' w' ∧ w'.ownsRow base 5 1 v' (bs ++ ds).length (cellsOf (bs ++ ds)) ∧ w.grownBy w' v.ownBlock ∧
      (v'.ownBlock = v.ownBlock ∨ v'.ownBlock = some w.heap.size) := by
  obtain ⟨i0, hi0, hz0, hz1, hz2⟩ := info_parts info_u8
  subst hm
  rw [cellsOf_append, List.length_append]
  have hlen : (cellsOf ds).length = ds.length * 1 := by rw [cellsOf_length, Nat.mul_one]
  rcases A with _ | ad
  · have h0 : ds = [] := by
      rcases ds with _ | ⟨d, ds⟩
      · rfl
      · obtain ⟨g, o, h, _⟩ := hr (by simp)
        cases h
    subst h0
    refine ⟨v, w, ?_, by simpa [cellsOf] using hown, World.grownBy.refl _ _, .inl rfl⟩
    rcases hown.2 with ⟨rfl, h0⟩ | ⟨g, cap, cur, rfl, _, _, hnc, _⟩
    · simp [Builtin.append_, run_underlying Try.underlying34, sizeOf, typeInfo, hi0, Builtin.lenOf, Builtin.firstCells]
    · simp [Builtin.append_, run_underlying Try.underlying34, sizeOf, typeInfo, hi0, Builtin.lenOf, Builtin.firstCells, hnc, storeCells]
  · obtain ⟨v', w', h1, h2, h3, _, h5⟩ := run_append_own_at (P := Try.prog) w base 34 ty 5 i0 (.int .u8 0) 1 1 Try.underlying34 hi0 hz0 hz1 hz2 rfl (by omega) v bs.length (cellsOf bs) hown ad ds.length c (cellsOf ds) hlen (by
        intro j u hu
        have hj : j < ds.length := by
          rcases Nat.lt_or_ge j ds.length with h | h
          · exact h
          · rw [List.getElem?_eq_none (by rw [cellsOf_length]; exact h)] at hu; cases hu
        obtain ⟨g, o, h, _, hc⟩ := hr (by omega)
        injection h with h
        subst h
        rw [addr_add, hc j _ (List.getElem?_eq_getElem hj)]
        rw [cellsOf_get ds j _ (List.getElem?_eq_getElem hj)] at hu
        exact hu) (cellsOf_one ds) (by unfold maxLen; omega) (by omega) hbase
    exact ⟨v', w', h1, h2, h3, h5⟩

/-- 'append' onto a row of bytes of the call's own, from whatever source of bytes. -/
theorem wpList_append_b {w : World} {ops : Array Oper} {rest : List Oper} {o : Oper} {a : Act} {Q : Exit → Act → World → Prop} (hgd : o.guard = none) (s x : Operand)
    (ho : o.op = .call { callee := .builtin .append, args := #[s, x], argTypes := #[34, 34] }) (base : Nat) (v : Value) (bs : List UInt8) (hs : a.eval s = v) (hown : w.ownsRow base 5 1 v bs.length (cellsOf bs))
    (B : Nat) (A : Option Addr) (m c : Nat) (ds : List UInt8) (hx : a.eval x = .slice A m c) (hm : ds.length = m) (hr : RB w B A ds) (hn : bs.length + ds.length ≤ 67108864) (hbase : base ≤ w.heap.size)
    (h : ∀ v' w', w'.ownsRow base 5 1 v' (bs ++ ds).length (cellsOf (bs ++ ds)) → w.grownBy w' v.ownBlock → (v'.ownBlock = v.ownBlock ∨ v'.ownBlock = some w.heap.size) → wpList Try.prog ops Q rest (a.put o.dst v') w') :
    wpList Try.prog ops Q (o :: rest) a w := by
  refine wpList_plain hgd fun K hK => ?_
  obtain ⟨v', w', hrun, h2, h3, h4⟩ := run_append_b w o.type base v bs hown B A m c ds hm hr hn hbase
  unfold Oper.wp execOp
  simp only [ho, resolve, invoke, builtin, Sem.run_bind, Sem.run_pure, Result.andThen_ok, List.map_toArray, List.map_cons, List.map_nil, hs, hx, hrun]
  exact hK _ _ (h v' w' h2 h3 h4)

/-- The same, as one step of a region that draws its order. -/
theorem step_append_b {w : World} {ops : Array Oper} {o : Oper} {a : Act} {K : Act → World → Prop} {Q : Exit → Act → World → Prop} {E : Prop} (hgd : o.guard = none) (s x : Operand)
    (ho : o.op = .call { callee := .builtin .append, args := #[s, x], argTypes := #[34, 34] }) (base : Nat) (v : Value) (bs : List UInt8) (hs : a.eval s = v) (hown : w.ownsRow base 5 1 v bs.length (cellsOf bs))
    (B : Nat) (A : Option Addr) (m c : Nat) (ds : List UInt8) (hx : a.eval x = .slice A m c) (hm : ds.length = m) (hr : RB w B A ds) (hn : bs.length + ds.length ≤ 67108864) (hbase : base ≤ w.heap.size)
    (h : ∀ v' w', w'.ownsRow base 5 1 v' (bs ++ ds).length (cellsOf (bs ++ ds)) → w.grownBy w' v.ownBlock → (v'.ownBlock = v.ownBlock ∨ v'.ownBlock = some w.heap.size) → K (a.put o.dst v') w') :
    if Region.wanted o (yielded ops a.tmps) = true then Oper.wp Try.prog o a w K Q else E := by
  have hw : Region.wanted o (yielded ops a.tmps) = true := by simp [Region.wanted, hgd]
  rw [if_pos hw]
  obtain ⟨v', w', hrun, h2, h3, h4⟩ := run_append_b w o.type base v bs hown B A m c ds hm hr hn hbase
  unfold Oper.wp execOp
  simp only [ho, resolve, invoke, builtin, Sem.run_bind, Sem.run_pure, Result.andThen_ok, List.map_toArray, List.map_cons, List.map_nil, hs, hx, hrun]
  exact h v' w' h2 h3 h4

/-- A new row of one or more bytes reads as these. -/
theorem RB.new (w : World) (e : TypeId) (bs : List UInt8) : RB (w.alloc (.cells (cellsOf bs).toArray e)) (w.heap.size + 1) (some ⟨w.heap.size, 0, none⟩) bs := by
  intro hp
  refine ⟨w.heap.size, 0, rfl, by omega, fun j u hu => ?_⟩
  rw [cell_of_row _ w.heap.size (0 + j) _ e (0, 0) (heap_alloc_new w _)]
  simpa using cellsOf_get bs j u hu
end Go.Proofs.Ythogonpjkngpjaa

namespace Go.Proofs.Ythogonpjkngpjaa
set_option maxRecDepth 100000
open Go.RowKit

set_option maxHeartbeats 400000 in
theorem toB (A : Option Addr) (c : Nat) (bs : List UInt8) (w : World) (hr : RB w w.heap.size A bs) (hn : bs.length ≤ 1048576) :
    Calls Try.prog 16 #[.slice A bs.length c] w fun e w' => e = .returned (.slice (some ⟨w.heap.size, 0, none⟩) bs.length bs.length) ∧
      w'.ownsRow w.heap.size 5 1 (.slice (some ⟨w.heap.size, 0, none⟩) bs.length bs.length) bs.length (cellsOf bs) ∧ Below w.heap.size w w' := by
  obtain ⟨i0, hi0, hz0, hz1, hz2⟩ := info_parts info_u8
  go_enter Try.func16, Try.ntmps16
  go_wp2_with (at_make; refine wpList_make_full _ rfl _ _ 34 rfl w.heap.size 5 i0 (.int .u8 0) 1 Try.underlying34 hi0 hz0 hz1 _ _ _ _ bs.length rfl rfl rfl rfl (by rw [hz2]; omega) (by unfold maxLen; omega) (Nat.le_refl _) ?_; intro w1 hown hgrow)
  have hown0 : w1.ownsRow w.heap.size 5 1 (.slice (some ⟨w.heap.size, 0, none⟩) bs.length bs.length) bs.length (cellsOf (bs.take 0 ++ List.replicate (bs.length - 0) 0)) := by
    have e : (madeCells (Value.int IntKind.u8 0).cells (bs.length * 1)).toList = cellsOf (bs.take 0 ++ List.replicate (bs.length - 0) 0) := by
      have := toList_madeCells_one (.int .u8 0) bs.length
      simpa [Value.cells, cellsOf] using this
    rw [← e]; exact hown
  have hb1 : Below w.heap.size w w1 := (Below.refl _ _).grown hgrow (Nat.le_refl _) (by simp)
  clear hown hgrow
  go_loopw [4] (fun i wr => ∃ k : Nat, k ≤ bs.length ∧ i = .int .i64 k ∧ wr.ownsRow w.heap.size 5 1 (.slice (some ⟨w.heap.size, 0, none⟩) bs.length bs.length) bs.length (cellsOf (bs.take k ++ List.replicate (bs.length - k) 0)) ∧ Below w.heap.size w wr) (fun i _ => bs.length - (intOf i).toNat)
  case atStart => exact ⟨0, Nat.zero_le _, rfl, hown0, hb1⟩
  case round =>
    obtain ⟨k, hk, rfl, hown, hb⟩ := hrel
    clear hown0 hb1
    by_cases hlt : k < bs.length
    · obtain ⟨g, o, rfl, hg, hc0⟩ := hr.at_ hlt
      have hc : wr.cell? ⟨g, o + k, none⟩ = some (.int .u8 (bs[k].toNat : Int)) := (hb.cell (p := ⟨g, o + k, none⟩) hg).trans hc0
      have hfz := hown.frozenAt k
      obtain ⟨u, hu⟩ : ∃ u, wr.cell? ⟨w.heap.size, k, none⟩ = some u := by
        rw [hown.cellAt k (by omega)]
        exact ⟨_, List.getElem?_eq_getElem (by rw [cellsOf_length]; simp; omega)⟩
      have R := hown.stored k (.int .u8 (bs[k].toNat : Int))
      rw [copy_step bs k hlt] at R
      have R1 := Lib.hid R.1
      have R2 : Below w.heap.size w (wr.setCell ⟨w.heap.size, k, none⟩ (.int .u8 (bs[k].toNat : Int))) := hb.setCell (Nat.le_refl _) _
      clear R hown hc0 hr
      go_wp2
      go_roundw
      case rel => exact ⟨k + 1, by omega, by go_num, R1.out, R2⟩
      case measure => simp [intOf]; omega
    · obtain rfl : k = bs.length := by omega
      go_wp2
      go_ret
      exact ⟨rfl, by simpa using hown, hb⟩

set_option maxHeartbeats 400000 in
/-- Two slices that read as the same bytes are found equal. -/
theorem eqB (A D : Option Addr) (c d : Nat) (bs : List UInt8) (w : World) (hx : RB w w.heap.size A bs) (hy : RB w w.heap.size D bs) (hn : bs.length ≤ 1048576) :
    Calls Try.prog 20 #[.slice A bs.length c, .slice D bs.length d] w fun e w' => e = .returned (.bool true) ∧ Below w.heap.size w w' := by
  go_enter Try.func20, Try.ntmps20
  go_wp2
  go_loopw [5] (fun i wr => ∃ k m : Nat, k ≤ bs.length ∧ i = .int .i64 k ∧ wr = w.drewN m) (fun i _ => bs.length - (intOf i).toNat)
  case atStart => exact ⟨0, 0, Nat.zero_le _, rfl, rfl⟩
  case round =>
    obtain ⟨k, m, hk, rfl, rfl⟩ := hrel
    by_cases hlt : k < bs.length
    · obtain ⟨g, o, rfl, hg, hc⟩ := hx.at_ hlt
      obtain ⟨g', o', rfl, hg', hc'⟩ := hy.at_ hlt
      clear hx hy
      go_wp2
      go_quiet (fail)
      go_wp2
      go_roundw
      case rel => exact ⟨k + 1, _, by omega, by go_num, rfl⟩
      case measure => simp [intOf]; omega
    · go_wp2
      go_ret
      exact ⟨rfl, below_drewN (Below.refl _ _) _⟩

/-- The byte that the marking lays at place i, counted from k on. -/
def mark (k i : Nat) : UInt8 := UInt8.ofNat (k + i)
def marks (k n : Nat) : List UInt8 := (List.range n).map (mark k)
theorem marks_length (k n : Nat) : (marks k n).length = n := by simp [marks]
theorem marks_succ (k i : Nat) : marks k (i + 1) = marks k i ++ [mark k i] := by simp [marks, List.range_succ]
theorem mark_val (k i : Nat) : ((mark k i).toNat : Int) = ((k : Int) + i) % 256 := by simp [mark]

theorem mark_step (k j : Nat) (bs : List UInt8) (h : j < bs.length) :
    (cellsOf (marks k j ++ bs.drop j)).set j (.int .u8 (((k : Int) + j) % 256)) = cellsOf (marks k (j + 1) ++ bs.drop (j + 1)) := by
  rw [List.drop_eq_getElem_cons h, ← mark_val, fill_step _ _ _ _ j (marks_length k j), marks_succ]

set_option maxHeartbeats 400000 in
/-- A row of the call's own is marked: its bytes are the numbers from k on; nothing else has turned. -/
theorem markB (A : Option Addr) (c base : Nat) (bs : List UInt8) (k : Nat) (w : World) (hown : w.ownsRow base 5 1 (.slice A bs.length c) bs.length (cellsOf bs)) (hn : bs.length ≤ 1048576) (hk : k ≤ 1048576) :
    Calls Try.prog 21 #[.slice A bs.length c, .int .i64 (k : Int)] w fun e w' => e = .returned (.int .i64 ((k : Int) + bs.length)) ∧
      w'.ownsRow base 5 1 (.slice A bs.length c) bs.length (cellsOf (marks k bs.length)) ∧ w.grownBy w' (Value.slice A bs.length c).ownBlock := by
  go_enter Try.func21, Try.ntmps21
  go_wp2
  go_loopw [1, 5] (fun q i wr => ∃ j : Nat, j ≤ bs.length ∧ i = .int .i64 j ∧ q = .int .i64 ((k : Int) + j) ∧ wr.ownsRow base 5 1 (.slice A bs.length c) bs.length (cellsOf (marks k j ++ bs.drop j)) ∧ w.grownBy wr (Value.slice A bs.length c).ownBlock) (fun _ i _ => bs.length - (intOf i).toNat)
  case atStart => exact ⟨0, Nat.zero_le _, rfl, by go_num, by simpa [marks] using hown, World.grownBy.refl _ _⟩
  case round =>
    obtain ⟨j, hj, rfl, rfl, ho, hg⟩ := hrel
    clear hown
    by_cases hlt : j < bs.length
    · obtain ⟨g, rfl⟩ : ∃ g, A = some ⟨g, 0, none⟩ := by
        rcases ho.2 with ⟨_, h2⟩ | ⟨g, cap, cur, hv, _⟩
        · omega
        · injection hv with hA
          exact ⟨g, hA⟩
      have hfz := ho.frozenAt j
      obtain ⟨u, hu⟩ : ∃ u, wr.cell? ⟨g, j, none⟩ = some u := by
        rw [ho.cellAt j (by omega)]
        exact ⟨_, List.getElem?_eq_getElem (by rw [cellsOf_length]; simp [marks_length]; omega)⟩
      have R := ho.stored j (.int .u8 (((k : Int) + j) % 256))
      rw [mark_step k j bs hlt] at R
      have R1 := Lib.hid R.1
      have R2 := Lib.hid (grownBy_trans hg (by simpa [Value.ownBlock] using R.2))
      clear R ho hg
      go_wp2
      go_roundw
      case rel => exact ⟨j + 1, by omega, by go_num, by go_num, R1.out, R2.out⟩
      case measure => simp [intOf]; omega
    · obtain rfl : j = bs.length := by omega
      go_wp2
      go_ret
      exact ⟨rfl, by simpa using ho, hg⟩

set_option maxHeartbeats 400000 in
/-- A slice that bears the marks from k on is found to bear them. -/
theorem heldB (A : Option Addr) (n c : Nat) (k : Nat) (w : World) (hr : RB w w.heap.size A (marks k n)) (hn : n ≤ 1048576) (hk : k ≤ 1048576) :
    Calls Try.prog 50 #[.slice A n c, .int .i64 (k : Int)] w fun e w' => e = .returned (.int .i64 ((k : Int) + n)) ∧ w = w' := by
  go_enter Try.func50, Try.ntmps50
  go_wp2
  go_loop [1, 5] (fun q i => ∃ j : Nat, j ≤ n ∧ i = .int .i64 j ∧ q = .int .i64 ((k : Int) + j)) (fun _ i => n - (intOf i).toNat)
  case atStart => exact ⟨0, Nat.zero_le _, rfl, by go_num⟩
  case round =>
    obtain ⟨j, hj, rfl, rfl⟩ := hrel
    by_cases hlt : j < n
    · obtain ⟨g, o, rfl, hg, hc0⟩ := hr.at_ (k := j) (by rw [marks_length]; exact hlt)
      have hc : w.cell? ⟨g, o + j, none⟩ = some (.int .u8 (((k : Int) + j) % 256)) := by
        rw [hc0]
        simp [marks, mark_val]
      clear hc0 hr
      go_wp2
      go_round
      case rel => exact ⟨j + 1, by omega, by go_num, by go_num⟩
      case measure => simp [intOf]; omega
    · obtain rfl : j = n := by omega
      go_wp2
      go_ret
      exact ⟨rfl, rfl⟩

theorem eqBn (A D : Option Addr) (n c d : Nat) (bs : List UInt8) (w : World) (hx : RB w w.heap.size A bs) (hy : RB w w.heap.size D bs) (hl : bs.length = n) (hn : n ≤ 1048576) :
    Calls Try.prog 20 #[.slice A n c, .slice D n d] w fun e w' => e = .returned (.bool true) ∧ Below w.heap.size w w' := by
  subst hl
  exact eqB A D c d bs w hx hy hn

theorem markBn (A : Option Addr) (n c base : Nat) (bs : List UInt8) (k : Int) (w : World) (hown : w.ownsRow base 5 1 (.slice A n c) n (cellsOf bs)) (hn : n ≤ 1048576) (h0 : 0 ≤ k) (hk : k ≤ 1048576) :
    Calls Try.prog 21 #[.slice A n c, .int .i64 k] w fun e w' => e = .returned (.int .i64 (k + n)) ∧
      w'.ownsRow base 5 1 (.slice A n c) n (cellsOf (marks k.toNat n)) ∧ w.grownBy w' (Value.slice A n c).ownBlock := by
  have hl : bs.length = n := by
    have := hown.1
    rw [cellsOf_length] at this
    omega
  subst hl
  have h := markB A c base bs k.toNat w hown hn (by omega)
  rw [Int.toNat_of_nonneg h0] at h
  exact h

theorem heldBn (A : Option Addr) (n c : Nat) (k : Int) (w : World) (hr : RB w w.heap.size A (marks k.toNat n)) (hn : n ≤ 1048576) (h0 : 0 ≤ k) (hk : k ≤ 1048576) :
    Calls Try.prog 50 #[.slice A n c, .int .i64 k] w fun e w' => e = .returned (.int .i64 (k + n)) ∧ w = w' := by
  have h := heldB A n c k.toNat w hr hn (by omega)
  rw [Int.toNat_of_nonneg h0] at h
  exact h


end Go.Proofs.Ythogonpjkngpjaa

namespace Go.Proofs.Ythogonpjkngpjaa
set_option maxRecDepth 100000
open Go.RowKit Go.ChangeShapes Go.WideShapes Go.ChangeAt

structure In (w : World) (A : Option Addr) (n c : Nat) (bs : List UInt8) : Prop where
  len : bs.length = n
  cap : n ≤ c
  big : c ≤ maxLen
  rb : RB w w.heap.size A bs

theorem byte_of_wf (z : Int) (h : (Lit.int .u8 z).wf = true) : ((UInt8.ofNat z.toNat).toNat : Int) = z := by
  have hb := bounds_u8 h
  simp
  omega

theorem bytes_in {H : Type} {enc : TypeId × Value → H} {w : World} {A : Option Addr} {n c : Nat} {d : DataW H} {p : List MemPlace} (h : DataW.Trod enc Try.prog w 0 (fun _ => true) true 34 (.slice A n c) d p) :
    ∃ bs, In w A n c bs := by
  obtain ⟨fuel, hf⟩ := h
  rcases open_ints Try.underlying34 Try.underlying5 (by kernel_rfl) hf with ⟨hcs, _⟩ | ⟨x, l, cp, zs, hcs, _, hl, hm, hz, _, hcell, hwz⟩
  · simp [Value.cells] at hcs
    obtain ⟨rfl, rfl, rfl⟩ := hcs
    exact ⟨[], rfl, Nat.le_refl _, Nat.zero_le _, RB.nil_ _ _ _⟩
  · simp [Value.cells] at hcs
    obtain ⟨rfl, rfl, rfl⟩ := hcs
    simp only [if_true] at hz
    refine ⟨(zs.take n).map fun z => UInt8.ofNat z.toNat, by simp; omega, hl, hm, fun hp => ?_⟩
    simp only [List.length_map, List.length_take] at hp
    obtain ⟨g, o, spot⟩ := x
    have h0 := hcell 0 (by omega)
    have hspot : spot = none := by simpa [Addr.add] using World.cell?_spot h0
    subst hspot
    refine ⟨g, o, rfl, ?_, fun j u hu => ?_⟩
    · have := World.block_lt_of_cell? w _ h0
      simpa [addr_add] using this
    · simp only [List.getElem?_map, Option.map_eq_some_iff, List.getElem?_take] at hu
      obtain ⟨z, hz1, rfl⟩ := hu
      split at hz1
      · have hj : j < zs.length := by omega
        have hc := hcell j hj
        rw [addr_add] at hc
        rw [hc]
        have hzj : zs[j] = z := by rw [List.getElem?_eq_getElem hj] at hz1; simpa using hz1
        rw [byte_of_wf z (hwz z (by rw [← hzj]; exact List.getElem_mem hj))]
        simp [hj, hzj]
      · cases hz1
end Go.Proofs.Ythogonpjkngpjaa

namespace Go.Proofs.Ythogonpjkngpjaa
set_option maxRecDepth 100000
open Go.RowKit

def byteOf (n : Int) : UInt8 := UInt8.ofNat (n % 256).toNat
theorem byteOf_val (n : Int) : ((byteOf n).toNat : Int) = n % 256 := by
  unfold byteOf
  have : (n % 256).toNat < 256 := by omega
  simp [UInt8.toNat_ofNat_of_lt' (show (n % 256).toNat < UInt8.size by simpa using this)]
  omega
def put16 (n : Int) : List UInt8 := [byteOf (n / 256), byteOf n]
def put32 (n : Int) : List UInt8 := [byteOf (n / 16777216), byteOf (n / 65536), byteOf (n / 256), byteOf n]

set_option maxHeartbeats 400000 in
theorem implPut16 (n : Int) (w : World) :
    Calls Try.prog 75 #[.int .i64 n] w fun e w' => e = .returned (.slice (some ⟨w.heap.size, 0, none⟩) 2 2) ∧
      w'.ownsRow w.heap.size 5 1 (.slice (some ⟨w.heap.size, 0, none⟩) 2 2) 2 (cellsOf (put16 n)) ∧ Below w.heap.size w w' := by
  go_enter Try.func75, Try.ntmps75
  go_wp2
  go_ret
  have e : cellsOf (put16 n) = [.int .u8 (n / 256 % 256), .int .u8 (n % 256)] := by simp [cellsOf, put16, byteOf_val]
  rw [e]
  exact ⟨rfl, World.ownsRow_lit w _ 2 (Nat.le_refl _) (by decide) rfl, (Below.refl _ _).alloc (Nat.le_refl _) _⟩

set_option maxHeartbeats 400000 in
theorem implPut32 (n : Int) (w : World) :
    Calls Try.prog 74 #[.int .i64 n] w fun e w' => e = .returned (.slice (some ⟨w.heap.size, 0, none⟩) 4 4) ∧
      w'.ownsRow w.heap.size 5 1 (.slice (some ⟨w.heap.size, 0, none⟩) 4 4) 4 (cellsOf (put32 n)) ∧ Below w.heap.size w w' := by
  go_enter Try.func74, Try.ntmps74
  go_wp2
  go_ret
  have e : cellsOf (put32 n) = [.int .u8 (n / 16777216 % 256), .int .u8 (n / 65536 % 256), .int .u8 (n / 256 % 256), .int .u8 (n % 256)] := by simp [cellsOf, put32, byteOf_val]
  rw [e]
  exact ⟨rfl, World.ownsRow_lit w _ 4 (Nat.le_refl _) (by decide) rfl, (Below.refl _ _).alloc (Nat.le_refl _) _⟩

theorem tmod_fix (n m : Int) (hm : 0 < m) : -m < n.tmod m ∧ n.tmod m < m ∧ (0 ≤ n.tmod m → n.tmod m = n % m) ∧ (n.tmod m < 0 → n.tmod m + m = n % m) := by
  have h0 := Int.emod_nonneg n (show m ≠ 0 by omega)
  have h1 := Int.emod_lt_of_pos n hm
  have h2 := Int.tmod_eq_emod (a := n) (b := m)
  have h3 : (m.natAbs : Int) = m := by omega
  have h4 : ¬ m ∣ n → n % m ≠ 0 := fun h e => h (Int.dvd_of_emod_eq_zero e)
  by_cases hd : 0 ≤ n ∨ m ∣ n
  · rw [if_pos hd] at h2; omega
  · rw [if_neg hd, h3] at h2
    have h5 := h4 (fun h => hd (.inr h))
    omega

set_option maxHeartbeats 400000 in
theorem low16 (n : Int) (w : World) :
    Calls Try.prog 96 #[.int .i64 n, .int .i64 65536] w fun e w' => e = .returned (.int .i64 (n % 65536)) ∧ w = w' := by
  obtain ⟨b1, b2, b3, b4⟩ := tmod_fix n 65536 (by omega)
  have H3 := Lib.hid b3
  have H4 := Lib.hid b4
  clear b3 b4
  go_enter Try.func96, Try.ntmps96
  go_wp2
  · go_ret
    exact ⟨ret_int (H4.out (by assumption)), rfl⟩
  · go_ret
    exact ⟨ret_int (H3.out (by assumption)), rfl⟩

set_option maxHeartbeats 400000 in
theorem low32 (n : Int) (w : World) :
    Calls Try.prog 96 #[.int .i64 n, .int .i64 4294967296] w fun e w' => e = .returned (.int .i64 (n % 4294967296)) ∧ w = w' := by
  obtain ⟨b1, b2, b3, b4⟩ := tmod_fix n 4294967296 (by omega)
  have H3 := Lib.hid b3
  have H4 := Lib.hid b4
  clear b3 b4
  go_enter Try.func96, Try.ntmps96
  go_wp2
  · go_ret
    exact ⟨ret_int (H4.out (by assumption)), rfl⟩
  · go_ret
    exact ⟨ret_int (H3.out (by assumption)), rfl⟩

set_option maxHeartbeats 400000 in
theorem specPut16 (n : Int) (w : World) :
    Calls Try.prog 58 #[.int .i64 n] w fun e w' => e = .returned (.slice (some ⟨w.heap.size, 0, none⟩) 2 2) ∧
      w'.ownsRow w.heap.size 5 1 (.slice (some ⟨w.heap.size, 0, none⟩) 2 2) 2 (cellsOf (put16 n)) ∧ Below w.heap.size w w' := by
  have h0 := Int.emod_nonneg n (show (65536 : Int) ≠ 0 by omega)
  have h1 := Int.emod_lt_of_pos n (show (0 : Int) < 65536 by omega)
  go_enter Try.func58, Try.ntmps58
  go_wp2_with (go_at_call 96; refine (low16 _ _).mono ?_; rintro e w' ⟨rfl, rfl⟩)
  go_ret
  have e : cellsOf (put16 n) = [.int .u8 (n % 65536 / 256), .int .u8 (n % 256)] := by
    simp [cellsOf, put16, byteOf_val]
    omega
  rw [e]
  exact ⟨rfl, World.ownsRow_lit w _ 2 (Nat.le_refl _) (by decide) rfl, (Below.refl _ _).alloc (Nat.le_refl _) _⟩

set_option maxHeartbeats 400000 in
theorem specPut32 (n : Int) (w : World) :
    Calls Try.prog 99 #[.int .i64 n] w fun e w' => ∃ A c, e = .returned (.slice A 4 c) ∧
      w'.ownsRow w.heap.size 5 1 (.slice A 4 c) 4 (cellsOf (put32 n)) ∧ Below w.heap.size w w' := by
  have h0 := Int.emod_nonneg n (show (4294967296 : Int) ≠ 0 by omega)
  have h1 := Int.emod_lt_of_pos n (show (0 : Int) < 4294967296 by omega)
  obtain ⟨i0, hi0, hz0, hz1, hz2⟩ := info_parts info_u8
  go_enter Try.func99, Try.ntmps99
  go_wp2_with (go_at_call 96; refine (low32 _ _).mono ?_; rintro e w' ⟨rfl, rfl⟩)
  refine (specPut16 _ _).mono ?_
  rintro e w1 ⟨rfl, hown1, hb1⟩
  go_wp2_with fail
  refine (specPut16 _ _).mono ?_
  rintro e w2 ⟨rfl, hown2, hb2⟩
  go_wp2_with (at_builtin; (refine wpList_append_b rfl (.tmp 8) (.tmp 11) rfl w.heap.size (.slice (some ⟨w.heap.size, 0, none⟩) 2 2) (put16 (n % 4294967296 / 65536)) rfl (own_below hown1 hb2) w2.heap.size (some ⟨w1.heap.size, 0, none⟩) 2 2 (put16 (n % 65536)) rfl rfl (RB.of_own hown2) (by simp [put16]) (Nat.le_trans hb1.size hb2.size) ?_); intro v3 w3 hown3 hg3 _)
  go_ret
  obtain ⟨A, c, rfl⟩ := own_form hown3
  have e : put16 (n % 4294967296 / 65536) ++ put16 (n % 65536) = put32 n := by
    simp only [put16, put32, List.cons_append, List.nil_append, byteOf]
    rw [show n % 4294967296 / 65536 / 256 % 256 = n / 16777216 % 256 by omega, show n % 4294967296 / 65536 % 256 = n / 65536 % 256 by omega, show n % 65536 / 256 % 256 = n / 256 % 256 by omega, show n % 65536 % 256 = n % 256 by omega]
  rw [e] at hown3
  exact ⟨A, c, rfl, hown3, (hb1.trans (hb2.mono hb1.size)).grown hg3 (Nat.le_trans hb1.size hb2.size) (by simp [Value.ownBlock])⟩
end Go.Proofs.Ythogonpjkngpjaa

namespace Go.Proofs.Ythogonpjkngpjaa
set_option maxRecDepth 100000
open Go.RowKit

def be (l : List UInt8) : Nat := l.foldl (fun n b => 256 * n + b.toNat) 0
theorem be_snoc (l : List UInt8) (b : UInt8) : be (l ++ [b]) = 256 * be l + b.toNat := by simp [be]
theorem be_from (l : List UInt8) : ∀ a : Nat, l.foldl (fun n b => 256 * n + b.toNat) a < (a + 1) * 256 ^ l.length := by
  induction l with
  | nil => intro a; simp
  | cons b l ih =>
    intro a
    have hb : b.toNat < 256 := UInt8.toNat_lt b
    have h := ih (256 * a + b.toNat)
    have h2 : (256 * a + b.toNat + 1) * 256 ^ l.length ≤ (256 * (a + 1)) * 256 ^ l.length := Nat.mul_le_mul_right _ (by omega)
    simp only [List.foldl_cons, List.length_cons, Nat.pow_succ]
    have h3 : (a + 1) * (256 ^ l.length * 256) = (256 * (a + 1)) * 256 ^ l.length := by rw [Nat.mul_comm (256 ^ l.length) 256, ← Nat.mul_assoc, Nat.mul_comm (a + 1) 256]
    omega
theorem be_lt (l : List UInt8) : be l < 256 ^ l.length := by
  have := be_from l 0
  simpa [be] using this
theorem be_lt3 (l : List UInt8) (j : Nat) (h : j ≤ 3) : be (l.take j) < 16777216 := by
  have h1 := be_lt (l.take j)
  have h2 : 256 ^ (l.take j).length ≤ 256 ^ 3 := Nat.pow_le_pow_right (by omega) (Nat.le_trans (List.length_take_le _ _) h)
  omega

theorem ofInt_i64 (a : Nat) (ha : a < 9223372036854775808) : (BitVec.ofInt 64 (a : Int)).toNat = a := by
  rw [BitVec.ofInt_natCast, BitVec.toNat_ofNat]
  exact Nat.mod_eq_of_lt (by omega)

/-- 'n<<8 | b' of a small n and a byte. -/
theorem or_byte (m b : Nat) (hm : m < 4294967296) (hb : b < 256) : bits .or .i64 ((m : Int) * 256) (b : Int) = (m : Int) * 256 + b := by
  have e : ((m : Int) * 256) = ((256 * m : Nat) : Int) := by omega
  have ho : 256 * m ||| b = 256 * m + b := (Nat.two_pow_add_eq_or_of_lt (i := 8) (by simpa using hb) m).symm
  rw [e]
  show IntKind.i64.wrap ((BitVec.ofInt 64 ((256 * m : Nat) : Int) ||| BitVec.ofInt 64 (b : Int)).toNat : Int) = _
  rw [BitVec.toNat_or, ofInt_i64 _ (by omega), ofInt_i64 b (by omega), ho, IntKind.wrap_i64]
  omega

set_option maxHeartbeats 400000 in
theorem within_yes (n lo hi : Int) (w : World) (h1 : lo ≤ n) (h2 : n ≤ hi) :
    Calls Try.prog 42 #[.int .i64 n, .int .i64 lo, .int .i64 hi] w fun e w' => e = .returned (.bool true) ∧ w = w' := by
  have h3 : ¬ n < lo := by omega
  have h4 : ¬ hi < n := by omega
  go_enter Try.func42, Try.ntmps42
  go_wp2
  go_ret
  exact ⟨rfl, rfl⟩

set_option maxHeartbeats 400000 in
theorem within_no (n lo hi : Int) (w : World) (h : n < lo ∨ hi < n) :
    Calls Try.prog 42 #[.int .i64 n, .int .i64 lo, .int .i64 hi] w fun e w' => e = .returned (.bool false) ∧ w = w' := by
  by_cases h1 : n < lo
  · have h2 : (lo == n) = false := by simp; omega
    go_enter Try.func42, Try.ntmps42
    go_wp2
    go_ret
    exact ⟨rfl, rfl⟩
  · have h3 : hi < n := by omega
    have h2 : (hi == n) = false := by simp; omega
    go_enter Try.func42, Try.ntmps42
    go_wp2
    go_ret
    exact ⟨rfl, rfl⟩

theorem two_bytes (a b : UInt8) : wrap64 (wrap64 (256 * wrap64 (a.toNat : Int)) + wrap64 (b.toNat : Int)) = ((256 * a.toNat + b.toNat : Nat) : Int) := by
  have ha : a.toNat < 256 := UInt8.toNat_lt a
  have hb : b.toNat < 256 := UInt8.toNat_lt b
  rw [IntWalk.wrap64_in (a.toNat : Int) (by omega), IntWalk.wrap64_in (b.toNat : Int) (by omega), IntWalk.wrap64_in (256 * (a.toNat : Int)) (by omega), IntWalk.wrap64_in _ (by omega)]
  omega

set_option maxHeartbeats 400000 in
theorem specBe16 (A : Option Addr) (n c : Nat) (bs : List UInt8) (k : Nat) (w : World) (hr : RB w w.heap.size A bs) (hl : bs.length = n) (hn : n ≤ 1048576) (h : k + 2 ≤ n) :
    Calls Try.prog 45 #[.slice A n c, .int .i64 (k : Int)] w fun e w' => e = .returned (.tuple #[.int .i64 (be ((bs.drop k).take 2)), .bool true]) ∧ Below w.heap.size w w' := by
  subst hl
  obtain ⟨g, o, rfl, hg, hcell⟩ := hr (by omega)
  have h1 := hcell k _ (List.getElem?_eq_getElem (by omega))
  have h2 := hcell (k + 1) _ (List.getElem?_eq_getElem (by omega))
  have e := Lib.hid (show be ((bs.drop k).take 2) = 256 * bs[k].toNat + bs[k + 1].toNat by
    rw [take_snoc _ 1 (by simp; omega), take_snoc _ 0 (by simp; omega), be_snoc, List.take_zero, be_snoc]
    simp [be])
  clear hcell
  go_enter Try.func45, Try.ntmps45
  go_wp2
  go_quiet (fail)
  go_wp2
  go_ret2
  refine ⟨?_, below_drewN (Below.refl _ _) _⟩
  rw [e.out, ← two_bytes bs[k] bs[k + 1]]
  rfl

set_option maxHeartbeats 400000 in
theorem specBe32 (A : Option Addr) (n c : Nat) (bs : List UInt8) (k : Nat) (w : World) (hr : RB w w.heap.size A bs) (hl : bs.length = n) (hn : n ≤ 1048576) (h : k + 4 ≤ n) :
    Calls Try.prog 46 #[.slice A n c, .int .i64 (k : Int)] w fun e w' => e = .returned (.tuple #[.int .i64 (be ((bs.drop k).take 4)), .bool true]) ∧ Below w.heap.size w w' := by
  subst hl
  obtain ⟨g, o, rfl, hg, hcell⟩ := hr (by omega)
  go_enter Try.func46, Try.ntmps46
  go_wp2
  go_loop [6, 7] (fun n i => ∃ j : Nat, j ≤ 4 ∧ i = .int .i64 j ∧ n = .int .i64 (be ((bs.drop k).take j))) (fun _ i => 4 - (intOf i).toNat)
  case atStart => exact ⟨0, Nat.zero_le _, rfl, rfl⟩
  case round =>
    obtain ⟨j, hj, rfl, rfl⟩ := hrel
    by_cases hlt : j < 4
    · have hc0 : w.cell? ⟨g, o + (k + j), none⟩ = some (.int .u8 (bs[k + j].toNat : Int)) := hcell (k + j) _ (List.getElem?_eq_getElem (by omega))
      have hb : (bs[k + j].toNat) < 256 := UInt8.toNat_lt _
      have hm := be_lt3 (bs.drop k) j (by omega)
      have hst := Lib.hid (show be ((bs.drop k).take (j + 1)) = 256 * be ((bs.drop k).take j) + bs[k + j].toNat by
        rw [take_snoc _ j (by simp; omega), be_snoc]
        simp)
      clear hcell
      go_wp2
      go_round
      case rel => exact ⟨j + 1, by omega, by go_num, by rw [hst.out]; go_num⟩
      case measure => simp [intOf]; omega
    · obtain rfl : j = 4 := by omega
      go_wp2
      go_ret2
      exact ⟨rfl, Below.refl _ _⟩
end Go.Proofs.Ythogonpjkngpjaa

namespace Go.Proofs.Ythogonpjkngpjaa
set_option maxRecDepth 100000
open Go.RowKit

/-- An address: Kind, A, B, C, D. -/
structure Ad where
  k : Int
  a : Int
  b : Int
  c : Int
  d : Int
deriving DecidableEq

def Ad.val (x : Ad) : Value := .agg #[.int .i64 x.k, .int .i64 x.a, .int .i64 x.b, .int .i64 x.c, .int .i64 x.d]
def Ad.zero : Ad := ⟨0, 0, 0, 0, 0⟩
def half (n : Int) : Bool := decide (0 ≤ n ∧ n ≤ 4294967295)
def Ad.ok (x : Ad) : Bool := (x.k == 4 && x.a == 0 && x.b == 0 && x.c == 0 && half x.d) || (x.k == 6 && half x.a && half x.b && half x.c && half x.d)
def Ad.bits (x : Ad) : Int := if x.k = 4 then 32 else 128

theorem half_iff (n : Int) : half n = true ↔ 0 ≤ n ∧ n ≤ 4294967295 := by simp [half]
theorem Ad.ok_iff (x : Ad) : x.ok = true ↔ (x.k = 4 ∧ x.a = 0 ∧ x.b = 0 ∧ x.c = 0 ∧ 0 ≤ x.d ∧ x.d ≤ 4294967295) ∨
    (x.k = 6 ∧ (0 ≤ x.a ∧ x.a ≤ 4294967295) ∧ (0 ≤ x.b ∧ x.b ≤ 4294967295) ∧ (0 ≤ x.c ∧ x.c ≤ 4294967295) ∧ 0 ≤ x.d ∧ x.d ≤ 4294967295) := by
  simp [Ad.ok, half, and_assoc]
theorem Ad.ok_kind {x : Ad} (h : x.ok = true) : x.k = 4 ∨ x.k = 6 := by
  rw [Ad.ok_iff] at h
  omega

/-- The sixteen bytes of A, B, C, D. -/
def Ad.whole (x : Ad) : List UInt8 := put32 x.a ++ put32 x.b ++ put32 x.c ++ put32 x.d
theorem Ad.whole_length (x : Ad) : x.whole.length = 16 := by simp [Ad.whole, put32]
/-- The bytes of an address: four or sixteen. -/
def Ad.bytes (x : Ad) : List UInt8 := if x.ok then (if x.k = 4 then put32 x.d else x.whole) else []
/-- The address of sixteen bytes. -/
def unw (k : Int) (bs : List UInt8) : Ad := ⟨k, be (bs.take 4), be ((bs.drop 4).take 4), be ((bs.drop 8).take 4), be ((bs.drop 12).take 4)⟩

theorem byteOf_eq (n : Int) (b : UInt8) (h : n % 256 = b.toNat) : byteOf n = b := by
  apply UInt8.toNat_inj.1
  have := byteOf_val n
  omega
theorem put32_be (p q r s : UInt8) : put32 (be [p, q, r, s]) = [p, q, r, s] := by
  have e : (be [p, q, r, s] : Int) = 256 * (256 * (256 * (p.toNat : Int) + q.toNat) + r.toNat) + s.toNat := by simp [be]
  have hp := UInt8.toNat_lt p
  have hq := UInt8.toNat_lt q
  have hr := UInt8.toNat_lt r
  have hs := UInt8.toNat_lt s
  unfold put32
  rw [byteOf_eq _ p (by omega), byteOf_eq _ q (by omega), byteOf_eq _ r (by omega), byteOf_eq _ s (by omega)]

theorem len4 {l : List UInt8} (h : l.length = 4) : ∃ p q r s, l = [p, q, r, s] := by
  match l, h with
  | [p, q, r, s], _ => exact ⟨p, q, r, s, rfl⟩
theorem put32_be4 (l : List UInt8) (h : l.length = 4) : put32 (be l) = l := by
  obtain ⟨p, q, r, s, rfl⟩ := len4 h
  exact put32_be p q r s
theorem put32_length (n : Int) : (put32 n).length = 4 := rfl

theorem whole_unw (k : Int) (bs : List UInt8) (h : bs.length = 16) : (unw k bs).whole = bs := by
  have h1 := put32_be4 (bs.take 4) (by simp; omega)
  have h2 := put32_be4 ((bs.drop 4).take 4) (by simp; omega)
  have h3 := put32_be4 ((bs.drop 8).take 4) (by simp; omega)
  have h4 := put32_be4 ((bs.drop 12).take 4) (by simp; omega)
  simp only [unw, Ad.whole]
  rw [h1, h2, h3, h4]
  have e1 : bs = bs.take 4 ++ bs.drop 4 := (List.take_append_drop 4 bs).symm
  have e2 : bs.drop 4 = (bs.drop 4).take 4 ++ bs.drop 8 := by
    have := (List.take_append_drop 4 (bs.drop 4)).symm
    simpa [List.drop_drop] using this
  have e3 : bs.drop 8 = (bs.drop 8).take 4 ++ bs.drop 12 := by
    have := (List.take_append_drop 4 (bs.drop 8)).symm
    simpa [List.drop_drop] using this
  have e4 : (bs.drop 12).take 4 = bs.drop 12 := List.take_of_length_le (by simp; omega)
  conv => rhs; rw [e1, e2, e3]
  rw [e4, List.append_assoc, List.append_assoc]
/-- A byte with its first k bits kept. -/
def cutByte (b : UInt8) (k : Nat) : UInt8 := UInt8.ofNat (b.toNat - b.toNat % 2 ^ (8 - k))
theorem cutByte_val (b : UInt8) (k : Nat) : (cutByte b k).toNat = b.toNat - b.toNat % 2 ^ (8 - k) := by
  have := UInt8.toNat_lt b
  unfold cutByte
  rw [UInt8.toNat_ofNat_of_lt' (show b.toNat - b.toNat % 2 ^ (8 - k) < UInt8.size by simp [UInt8.size]; omega)]
theorem cutByte_zero (k : Nat) : cutByte 0 k = 0 := by
  apply UInt8.toNat_inj.1
  rw [cutByte_val]
  simp
theorem nine {k : Nat} (h : k ≤ 8) : k = 0 ∨ k = 1 ∨ k = 2 ∨ k = 3 ∨ k = 4 ∨ k = 5 ∨ k = 6 ∨ k = 7 ∨ k = 8 := by omega
theorem cutByte_cut (b : UInt8) (k j : Nat) (hk : k ≤ 8) (hj : j ≤ k) : cutByte (cutByte b k) j = cutByte b j := by
  apply UInt8.toNat_inj.1
  rw [cutByte_val, cutByte_val, cutByte_val]
  have hb := UInt8.toNat_lt b
  have hj' : j ≤ 8 := by omega
  rcases nine hk with rfl | rfl | rfl | rfl | rfl | rfl | rfl | rfl | rfl <;> rcases nine hj' with rfl | rfl | rfl | rfl | rfl | rfl | rfl | rfl | rfl <;> first | (exfalso; omega) | (simp; omega) | simp

/-- Bytes with their first n bits kept. -/
def cutB (n : Nat) (bs : List UInt8) : List UInt8 := bs.mapIdx fun i b => cutByte b (min 8 (n - 8 * i))
theorem cutB_length (n : Nat) (bs : List UInt8) : (cutB n bs).length = bs.length := by simp [cutB]
theorem cutB_get (n : Nat) (bs : List UInt8) (i : Nat) (h : i < bs.length) : (cutB n bs)[i]'(by rw [cutB_length]; exact h) = cutByte bs[i] (min 8 (n - 8 * i)) := by simp [cutB]
theorem cutB_cut (n m : Nat) (h : m ≤ n) (bs : List UInt8) : cutB m (cutB n bs) = cutB m bs := by
  apply List.ext_getElem (by simp [cutB_length])
  intro i h1 h2
  rw [cutB_get _ _ _ (by simpa [cutB_length] using h1), cutB_get _ _ _ (by simpa [cutB_length] using h1), cutB_get _ _ _ (by simpa [cutB_length] using h1)]
  exact cutByte_cut _ _ _ (by omega) (by omega)

/-- An address with its first n bits kept. -/
def Ad.cut (x : Ad) (n : Int) : Ad := if x.ok = true ∧ 0 ≤ n ∧ n ≤ x.bits then unw x.k (cutB (128 - x.bits + n).toNat x.whole) else Ad.zero
theorem Ad.cut_of {x : Ad} {n : Int} (h : x.ok = true ∧ 0 ≤ n ∧ n ≤ x.bits) : x.cut n = unw x.k (cutB (128 - x.bits + n).toNat x.whole) := if_pos h
theorem Ad.cut_whole {x : Ad} {n : Int} (h : x.ok = true ∧ 0 ≤ n ∧ n ≤ x.bits) : (x.cut n).whole = cutB (128 - x.bits + n).toNat x.whole := by
  rw [Ad.cut_of h, whole_unw _ _ (by rw [cutB_length, Ad.whole_length])]
theorem Ad.cut_kind {x : Ad} {n : Int} (h : x.ok = true ∧ 0 ≤ n ∧ n ≤ x.bits) : (x.cut n).k = x.k := by rw [Ad.cut_of h]; rfl
theorem be_le4 (l : List UInt8) (h : l.length ≤ 4) : (be l : Int) ≤ 4294967295 := by
  have h1 := be_lt l
  have h2 : 256 ^ l.length ≤ 256 ^ 4 := Nat.pow_le_pow_right (by omega) h
  omega
theorem put32_zero : put32 0 = [0, 0, 0, 0] := by decide
theorem cutB_append (n : Nat) (x y : List UInt8) : cutB n (x ++ y) = cutB n x ++ cutB (n - 8 * x.length) y := by
  unfold cutB
  rw [List.mapIdx_append]
  congr 1
  apply List.ext_getElem (by simp)
  intro i h1 h2
  simp only [List.getElem_mapIdx]
  congr 1
  omega
theorem cutB_zeros (n : Nat) : cutB n [0, 0, 0, 0, 0, 0, 0, 0, 0, 0, 0, 0] = [0, 0, 0, 0, 0, 0, 0, 0, 0, 0, 0, 0] := by
  simp [cutB, List.mapIdx_cons, cutByte_zero]
theorem whole_four {x : Ad} (h : x.a = 0 ∧ x.b = 0 ∧ x.c = 0) : x.whole = [0, 0, 0, 0, 0, 0, 0, 0, 0, 0, 0, 0] ++ put32 x.d := by
  obtain ⟨h1, h2, h3⟩ := h
  rw [Ad.whole, h1, h2, h3, put32_zero]
  rfl
theorem Ad.ok_four {x : Ad} (h : x.ok = true) (hk : x.k = 4) : x.a = 0 ∧ x.b = 0 ∧ x.c = 0 := by
  rw [Ad.ok_iff] at h
  omega
/-- What is cut of an address of kind 4: its own four bytes. -/
theorem Ad.cut_four {x : Ad} {n : Int} (h : x.ok = true) (hk : x.k = 4) (h0 : 0 ≤ n) (h1 : n ≤ 32) : x.cut n = ⟨4, 0, 0, 0, be (cutB n.toNat (put32 x.d))⟩ := by
  have hb : x.bits = 32 := by simp [Ad.bits, hk]
  rw [Ad.cut_of ⟨h, h0, by omega⟩, whole_four (x.ok_four h hk), hb, cutB_append, cutB_zeros, hk]
  have e : (128 - 32 + n).toNat - 8 * ([0, 0, 0, 0, 0, 0, 0, 0, 0, 0, 0, 0] : List UInt8).length = n.toNat := by simp; omega
  rw [e]
  have hl : (cutB n.toNat (put32 x.d)).length = 4 := by rw [cutB_length]; rfl
  obtain ⟨p, q, r, s, hl⟩ := len4 hl
  rw [hl]
  simp [unw, be]
theorem Ad.cut_six {x : Ad} {n : Int} (h : x.ok = true) (hk : x.k = 6) (h0 : 0 ≤ n) (h1 : n ≤ 128) : x.cut n = unw 6 (cutB n.toNat x.whole) := by
  have hb : x.bits = 128 := by simp [Ad.bits, hk]
  rw [Ad.cut_of ⟨h, h0, by omega⟩, hb, hk]
  congr 2
  omega
theorem Ad.cut_ok {x : Ad} {n : Int} (h : x.ok = true ∧ 0 ≤ n ∧ n ≤ x.bits) : (x.cut n).ok = true := by
  obtain ⟨h, h0, h1⟩ := h
  rcases x.ok_kind h with hk | hk
  · rw [x.cut_four h hk h0 (by simp [Ad.bits, hk] at h1; exact h1), Ad.ok_iff]
    have := be_le4 (cutB n.toNat (put32 x.d)) (by rw [cutB_length]; simp [put32])
    exact .inl ⟨rfl, rfl, rfl, rfl, by simp, this⟩
  · rw [x.cut_six h hk h0 (by simp [Ad.bits, hk] at h1; exact h1), Ad.ok_iff]
    exact .inr ⟨rfl, ⟨by simp [unw], be_le4 _ (List.length_take_le _ _)⟩, ⟨by simp [unw], be_le4 _ (List.length_take_le _ _)⟩, ⟨by simp [unw], be_le4 _ (List.length_take_le _ _)⟩, by simp [unw], be_le4 _ (List.length_take_le _ _)⟩
theorem Ad.cut_bits {x : Ad} {n : Int} (h : x.ok = true ∧ 0 ≤ n ∧ n ≤ x.bits) : (x.cut n).bits = x.bits := by simp [Ad.bits, Ad.cut_kind h]
theorem Ad.cut_cut {x : Ad} {n m : Int} (h : x.ok = true ∧ 0 ≤ n ∧ n ≤ x.bits) (h0 : 0 ≤ m) (h1 : m ≤ n) : (x.cut n).cut m = x.cut m := by
  have hm : x.ok = true ∧ 0 ≤ m ∧ m ≤ x.bits := ⟨h.1, h0, by omega⟩
  have hb := Ad.cut_bits h
  have hx : (x.cut n).ok = true ∧ 0 ≤ m ∧ m ≤ (x.cut n).bits := ⟨Ad.cut_ok h, h0, by omega⟩
  rw [Ad.cut_of hx, Ad.cut_of hm, Ad.cut_whole h, hb, Ad.cut_kind h, cutB_cut _ _ (by omega)]

/-- A prefix: an address and a length. -/
structure Pf where
  base : Ad
  len : Int
deriving DecidableEq
def Pf.zero : Pf := ⟨Ad.zero, 0⟩
def Pf.val (p : Pf) : Value := .agg #[.int .i64 p.base.k, .int .i64 p.base.a, .int .i64 p.base.b, .int .i64 p.base.c, .int .i64 p.base.d, .int .i64 p.len]
def Pf.ok (p : Pf) : Bool := decide (p = Pf.zero) || (p.base.ok && decide (0 ≤ p.len ∧ p.len ≤ p.base.bits) && decide (p.base.cut p.len = p.base))
def Pf.has (p : Pf) (x : Ad) : Bool := p.ok && x.ok && (decide (p = Pf.zero) || (decide (p.base.k = x.k) && decide (x.cut p.len = p.base)))
def Pf.inn (p q : Pf) : Bool := p.ok && q.ok && (decide (q = Pf.zero) || (!decide (p = Pf.zero) && decide (p.base.k = q.base.k) && decide (q.len ≤ p.len) && q.has p.base))
/-- Each address of a prefix that lies in another one is in the other one. -/
theorem Pf.holds (p q : Pf) (x : Ad) (h : p.inn q = true) (hx : p.has x = true) : q.has x = true := by
  simp only [Pf.inn, Pf.has, Bool.and_eq_true, Bool.or_eq_true, decide_eq_true_eq, Bool.not_eq_true', decide_eq_false_iff_not] at h hx ⊢
  obtain ⟨⟨hp, hq⟩, h⟩ := h
  obtain ⟨⟨_, hox⟩, hx⟩ := hx
  refine ⟨⟨hq, hox⟩, ?_⟩
  rcases h with h | ⟨⟨⟨hpz, hk⟩, hl⟩, ⟨_, hob⟩, hc⟩
  · exact .inl h
  · rcases hc with hc | ⟨_, hc⟩
    · exact .inl hc
    · rcases hx with hx | ⟨hxk, hxc⟩
      · exact absurd hx hpz
      · right
        refine ⟨by rw [← hk, hxk], ?_⟩
        simp only [Pf.ok, Bool.or_eq_true, Bool.and_eq_true, decide_eq_true_eq] at hp hq
        rcases hq with hq | ⟨⟨_, hq0, hq1⟩, _⟩
        · subst hq
          have hz := p.base.ok_kind hob
          rw [hk] at hz
          exact absurd hz (by decide)
        · rcases hp with hp | ⟨⟨_, hp0, hp1⟩, _⟩
          · exact absurd hp hpz
          · have hb : x.bits = p.base.bits := by simp [Ad.bits, hxk]
            rw [← hc, ← hxc]
            exact (Ad.cut_cut (x := x) (n := p.len) (m := q.len) ⟨hox, hp0, by omega⟩ hq0 hl).symm
end Go.Proofs.Ythogonpjkngpjaa

namespace Go.Proofs.Ythogonpjkngpjaa
set_option maxRecDepth 100000
open Go.RowKit Go.ChangeShapes Go.WideShapes Go.ChangeAt

theorem field_int {H : Type} {enc : TypeId × Value → H} {P : Program} {w : World} {base : Nat} {spare : Nat → Bool} {held : Bool} {t : TypeId} {fuel : Nat} {cs : List Value} {x : DataW H × List MemPlace} {fs : Array Field}
    (ht : P.underlying t = some (.struct fs)) (h : DataW.trod enc P w base spare held fuel t cs = some x) (i : Nat) (f : Field) (hf : fs[i]? = some f) (hu : P.underlying f.type = some (.int .i64)) (hc : P.cellsOf f.type = 1) :
    ∃ n, (cs.drop f.offset).take 1 = [.int .i64 n] := by
  obtain ⟨xs, m, _, _, _, hlen, hx⟩ := DataW.trod_struct ht h
  have hi : i < xs.length := by
    rw [hlen]
    exact (Array.getElem?_eq_some_iff.1 hf).1
  have hg := hx i f hf
  rw [List.getElem?_eq_getElem hi, hc] at hg
  obtain ⟨n, hn, _⟩ := DataW.trod_int hu hg
  exact ⟨n, hn⟩
theorem five {α : Type} {l : List α} (h : l.length = 5) : ∃ a b c d e, l = [a, b, c, d, e] := by
  match l, h with
  | [a, b, c, d, e], _ => exact ⟨a, b, c, d, e, rfl⟩
theorem addr_cells {H : Type} {enc : TypeId × Value → H} {w : World} {base : Nat} {spare : Nat → Bool} {held : Bool} {fuel : Nat} {cs : List Value} {x : DataW H × List MemPlace}
    (h : DataW.trod enc Try.prog w base spare held fuel 23 cs = some x) : ∃ y : Ad, cs = [.int .i64 y.k, .int .i64 y.a, .int .i64 y.b, .int .i64 y.c, .int .i64 y.d] := by
  have hl : cs.length = 5 := by
    obtain ⟨_, _, _, _, hl, _⟩ := DataW.trod_struct Try.underlying23 h
    rw [hl]
    kernel_rfl
  obtain ⟨c0, c1, c2, c3, c4, rfl⟩ := five hl
  obtain ⟨n0, e0⟩ := field_int Try.underlying23 h 0 _ rfl Try.underlying3 (by kernel_rfl)
  obtain ⟨n1, e1⟩ := field_int Try.underlying23 h 1 _ rfl Try.underlying3 (by kernel_rfl)
  obtain ⟨n2, e2⟩ := field_int Try.underlying23 h 2 _ rfl Try.underlying3 (by kernel_rfl)
  obtain ⟨n3, e3⟩ := field_int Try.underlying23 h 3 _ rfl Try.underlying3 (by kernel_rfl)
  obtain ⟨n4, e4⟩ := field_int Try.underlying23 h 4 _ rfl Try.underlying3 (by kernel_rfl)
  simp at e0 e1 e2 e3 e4
  subst e0 e1 e2 e3 e4
  exact ⟨⟨n0, n1, n2, n3, n4⟩, rfl⟩

theorem addr_in {H : Type} {enc : TypeId × Value → H} {w : World} {r : Reach} {b0 base : Nat} {spare : Nat → Bool} {held : Bool} {v : Value} {d : DataW H} {p : List MemPlace}
    (hv : Value.okWide Try.prog w r b0 23 v) (h : DataW.Trod enc Try.prog w base spare held 23 v d p) : ∃ y : Ad, v = y.val := by
  obtain ⟨cs, rfl, hsz⟩ := okWide_struct Try.underlying23 hv
  obtain ⟨fuel, hf⟩ := h
  obtain ⟨y, hy⟩ := addr_cells hf
  refine ⟨y, ?_⟩
  simp only [Value.cells] at hy
  cases cs
  try simp only at hy
  rw [hy]
  rfl

end Go.Proofs.Ythogonpjkngpjaa

namespace Go.Proofs.Ythogonpjkngpjaa
set_option maxRecDepth 100000

def isWord (n : Int) : Bool := decide (0 ≤ n ∧ n ≤ 65535)
theorem isWord_iff {n : Int} : isWord n = true ↔ 0 ≤ n ∧ n ≤ 65535 := by simp [isWord]
theorem isWord_not {n : Int} : isWord n = false ↔ n < 0 ∨ 65535 < n := by simp [isWord]; omega

/-- The sum of two words with the carry taken off. -/
def sadd (a b : Int) : Int := if 65535 < a + b then a + b - 65535 else a + b
theorem sadd_word {a b : Int} (ha : isWord a = true) (hb : isWord b = true) : isWord (sadd a b) = true := by
  rw [isWord_iff] at *
  unfold sadd
  split <;> omega
theorem sadd_zero {a : Int} (ha : isWord a = true) : sadd 0 a = a := by
  rw [isWord_iff] at ha
  unfold sadd
  split <;> omega

/-- The sum of a list of words from s on. -/
def sums (s : Int) (ws : List Int) : Int := ws.foldl sadd s
theorem sums_snoc (s : Int) (ws : List Int) (x : Int) : sums s (ws ++ [x]) = sadd (sums s ws) x := by simp [sums]
theorem sums_word (ws : List Int) : ∀ s, isWord s = true → ws.all isWord = true → isWord (sums s ws) = true := by
  induction ws with
  | nil => intro s h _; exact h
  | cons x ws ih =>
    intro s h hw
    simp only [List.all_cons, Bool.and_eq_true] at hw
    exact ih _ (sadd_word h hw.1) hw.2

/-- What 'folded' answers. -/
def folded (ws : List Int) : Int := if ws.all isWord then sums 0 ws else -1
theorem folded_yes {ws : List Int} (h : ws.all isWord = true) : folded ws = sums 0 ws := by rw [folded, if_pos h]
theorem folded_no {ws : List Int} (k : Nat) (hk : k < ws.length) (h : isWord ws[k] = false) : folded ws = -1 := by
  have : ws.all isWord = false := by
    rw [Bool.eq_false_iff]
    intro ha
    have := List.all_eq_true.1 ha _ (List.getElem_mem hk)
    simp [h] at this
  rw [folded, this]
  rfl
theorem all_take_snoc (ws : List Int) (k : Nat) (hk : k < ws.length) (h : (ws.take k).all isWord = true) (hx : isWord ws[k] = true) : (ws.take (k + 1)).all isWord = true := by
  rw [take_snoc ws k hk, List.all_append, h, List.all_cons, hx]
  rfl

/-- What 'complement' answers. -/
def comp (n : Int) : Int := if isWord n then 65535 - n else -1
theorem comp_yes {n : Int} (h : isWord n = true) : comp n = 65535 - n := by rw [comp, if_pos h]
theorem comp_no {n : Int} (h : isWord n = false) : comp n = -1 := by rw [comp, h]; rfl
/-- The words of a list of bytes. -/
def wordsL : List UInt8 → List Int
  | [] => []
  | [a] => [256 * (a.toNat : Int)]
  | a :: b :: t => (256 * (a.toNat : Int) + b.toNat) :: wordsL t
theorem wordsL_length : ∀ l : List UInt8, (wordsL l).length = (l.length + 1) / 2
  | [] => rfl
  | [_] => by simp [wordsL]
  | a :: b :: t => by
    have := wordsL_length t
    simp only [wordsL, List.length_cons, this]
    omega
theorem wordsL_append : ∀ (l m : List UInt8), l.length % 2 = 0 → wordsL (l ++ m) = wordsL l ++ wordsL m
  | [], _, _ => rfl
  | [_], _, h => by simp at h
  | a :: b :: t, m, h => by
    have := wordsL_append t m (by simp at h; omega)
    simp [wordsL, this]
theorem wordsL_word : ∀ l : List UInt8, (wordsL l).all isWord = true
  | [] => rfl
  | [a] => by
    have := UInt8.toNat_lt a
    simp [wordsL, isWord]
    omega
  | a :: b :: t => by
    have := wordsL_word t
    have := UInt8.toNat_lt a
    have := UInt8.toNat_lt b
    simp only [wordsL, List.all_cons, Bool.and_eq_true]
    exact ⟨isWord_iff.2 (by omega), by assumption⟩
theorem wordsL_even (bs : List UInt8) (k : Nat) (h : k < bs.length) (he : k % 2 = 0) : wordsL (bs.take (k + 1)) = wordsL (bs.take k) ++ [256 * (bs[k].toNat : Int)] := by
  rw [take_snoc bs k h, wordsL_append _ _ (by simp; omega)]
  rfl
theorem wordsL_odd (bs : List UInt8) (k : Nat) (h : k + 1 < bs.length) (he : k % 2 = 0) : wordsL (bs.take (k + 2)) = wordsL (bs.take k) ++ [256 * (bs[k].toNat : Int) + bs[k + 1].toNat] := by
  rw [take_snoc bs (k + 1) h, take_snoc bs k (by omega), List.append_assoc, wordsL_append _ _ (by simp; omega)]
  rfl

/-- What OnesSum answers. -/
def onesSum (bs : List UInt8) : Int := if 2000 < bs.length then -1 else sums 0 (wordsL bs)
theorem onesSum_word {bs : List UInt8} (h : bs.length ≤ 2000) : isWord (onesSum bs) = true := by
  rw [onesSum, if_neg (by omega)]
  exact sums_word (wordsL bs) 0 (by decide) (wordsL_word bs)
/-- What Checksum answers. -/
def checksum (bs : List UInt8) : Int := comp (onesSum bs)

end Go.Proofs.Ythogonpjkngpjaa

namespace Go.Proofs.Ythogonpjkngpjaa
set_option maxRecDepth 100000
open Go.RowKit

/-- A slice that reads as bytes: its front and its back read as these bytes' front and back. -/
theorem RB.front {w : World} {B : Nat} {A : Option Addr} {bs : List UInt8} (h : RB w B A bs) (m : Nat) : RB w B A (bs.take m) := by
  intro hp
  have hp' : 0 < bs.length := by rw [List.length_take] at hp; omega
  obtain ⟨g, o, e, hg, hc⟩ := h hp'
  refine ⟨g, o, e, hg, fun j u hu => hc j u ?_⟩
  rw [List.getElem?_take] at hu
  split at hu
  · exact hu
  · cases hu

theorem RB.back {w : World} {B : Nat} {A : Option Addr} {bs : List UInt8} (h : RB w B A bs) (m c : Nat) (hc : bs.length ≤ c) : RB w B (if c = m then A else A.map (·.add (m * 1))) (bs.drop m) := by
  intro hp
  rw [List.length_drop] at hp
  obtain ⟨g, o, e, hg, hcell⟩ := h (by omega)
  subst e
  rw [if_neg (by omega)]
  refine ⟨g, o + m, by simp [addr_add], hg, fun j u hu => ?_⟩
  rw [List.getElem?_drop] at hu
  rw [Nat.add_assoc]
  exact hcell _ _ hu

theorem cut_back (A : Option Addr) (n c m : Nat) (h : m ≤ n) (w : World) : (Instr.sliceAt 34 (.slice A n c) (some (.int .i64 (m : Int))) none none).run Try.prog w = .ok (.slice (if c = m then A else A.map (·.add (m * 1))) (n - m) (c - m)) w := by
  obtain ⟨i0, hi0, hz0, hz1, hz2⟩ := info_parts info_u8
  rw [run_sliceAt_slice w _ _ _ _ _ (by kernel_rfl), run_slice_l w _ _ _ _ (by kernel_rfl) .i64 (m : Int) (by omega) (by omega)]
  have e : Try.prog.elem 34 = 5 := by kernel_rfl
  simp [e, sizeOf, typeInfo, hi0, sliced, hz1]
end Go.Proofs.Ythogonpjkngpjaa

namespace Go.Proofs.Ythogonpjkngpjaa
set_option maxRecDepth 100000
open Go.RowKit

/-- The head of a packet, but for its options. -/
structure Fh where
  dscp : Int
  ecn : Int
  id : Int
  flags : Int
  frag : Int
  ttl : Int
  proto : Int
  src : Ad
  dst : Ad
deriving DecidableEq

def Fh.zero : Fh := ⟨0, 0, 0, 0, 0, 0, 0, Ad.zero, Ad.zero⟩
def upTo (n hi : Int) : Bool := decide (0 ≤ n ∧ n ≤ hi)
theorem upTo_iff {n hi : Int} : upTo n hi = true ↔ 0 ≤ n ∧ n ≤ hi := by simp [upTo]
def adOk4 (x : Ad) : Bool := decide (x.k = 4) && x.ok
def optOk (o : Nat) : Bool := decide (o ≤ 40 ∧ o % 4 = 0)
/-- The seven integers are in their ranges. -/
def Fh.small (x : Fh) : Bool := upTo x.dscp 63 && upTo x.ecn 3 && upTo x.id 65535 && upTo x.flags 7 && upTo x.frag 8191 && upTo x.ttl 255 && upTo x.proto 255
/-- Is a packet with this head, o bytes of options and n bytes of a body valid? -/
def Fh.ok (x : Fh) (o n : Nat) : Bool := x.small && adOk4 x.src && adOk4 x.dst && optOk o && decide ((n : Int) ≤ 1480 - o)
theorem Fh.small_iff (x : Fh) : x.small = true ↔ (0 ≤ x.dscp ∧ x.dscp ≤ 63) ∧ (0 ≤ x.ecn ∧ x.ecn ≤ 3) ∧ (0 ≤ x.id ∧ x.id ≤ 65535) ∧ (0 ≤ x.flags ∧ x.flags ≤ 7) ∧ (0 ≤ x.frag ∧ x.frag ≤ 8191) ∧ (0 ≤ x.ttl ∧ x.ttl ≤ 255) ∧ (0 ≤ x.proto ∧ x.proto ≤ 255) := by
  simp only [Fh.small, upTo, Bool.and_eq_true, decide_eq_true_eq, and_assoc]
theorem Fh.ok_iff (x : Fh) (o n : Nat) : x.ok o n = true ↔ ((0 ≤ x.dscp ∧ x.dscp ≤ 63) ∧ (0 ≤ x.ecn ∧ x.ecn ≤ 3) ∧ (0 ≤ x.id ∧ x.id ≤ 65535) ∧ (0 ≤ x.flags ∧ x.flags ≤ 7) ∧ (0 ≤ x.frag ∧ x.frag ≤ 8191) ∧ (0 ≤ x.ttl ∧ x.ttl ≤ 255) ∧ (0 ≤ x.proto ∧ x.proto ≤ 255)) ∧
    adOk4 x.src = true ∧ adOk4 x.dst = true ∧ (o ≤ 40 ∧ o % 4 = 0) ∧ (n : Int) ≤ 1480 - o := by
  simp only [Fh.ok, optOk, Bool.and_eq_true, decide_eq_true_eq, and_assoc, Fh.small_iff]
/-- The bytes of a head with a checksum, over options and the length of a body. -/
def Fh.head (x : Fh) (sum : Int) (os : List UInt8) (n : Nat) : List UInt8 :=
  [byteOf (69 + (os.length : Int) / 4), byteOf (4 * x.dscp + x.ecn)] ++ put16 (20 + os.length + n) ++ put16 x.id ++ put16 (8192 * x.flags + x.frag) ++ [byteOf x.ttl, byteOf x.proto] ++ put16 sum ++ put32 x.src.d ++ put32 x.dst.d ++ os
def Fh.sum (x : Fh) (os : List UInt8) (n : Nat) : Int := if x.ok os.length n then checksum (x.head 0 os n) else -1
def Fh.bytes (x : Fh) (os bs : List UInt8) : List UInt8 := if x.ok os.length bs.length then x.head (x.sum os bs.length) os bs.length ++ bs else []
end Go.Proofs.Ythogonpjkngpjaa

namespace Go.Proofs.Ythogonpjkngpjaa
set_option maxRecDepth 100000
open Go.RowKit

/-- An upper layer, but for its options and its body. -/
structure Uh where
  kind : Int
  sport : Int
  dport : Int
  seq : Int
  ack : Int
  bits : Int
  window : Int
  urgent : Int
  ty : Int
  code : Int
  rest : Int
  nosum : Bool
deriving DecidableEq
def Uh.zero : Uh := ⟨0, 0, 0, 0, 0, 0, 0, 0, 0, 0, 0, false⟩
/-- The size of an upper layer with o bytes of options and n of a body. -/
def Uh.size (x : Uh) (o n : Nat) : Int := if x.kind = 0 then n else if x.kind = 1 then 20 + o + n else if x.kind = 2 then 8 + n else if x.kind = 3 then 8 + n else -1
/-- Are two addresses valid and of one kind? -/
def pairA (x y : Ad) : Bool := x.ok && y.ok && decide (x.k = y.k)
/-- The bytes of the pseudo header. -/
def psBytes (x y : Ad) (p s : Int) : List UInt8 := x.bytes ++ y.bytes ++ (if x.k = 4 then [0, byteOf p] ++ put16 s else put32 s ++ [0, 0, 0, byteOf p])
def psSum (x y : Ad) (p s : Int) : Int := if pairA x y && upTo p 255 && upTo s 1500 then onesSum (psBytes x y p s) else -1
theorem psSum_no {x y : Ad} {p s : Int} (h : (pairA x y && upTo p 255 && upTo s 1500) = false) : psSum x y p s = -1 := by simp [psSum, h]
theorem psSum_yes {x y : Ad} {p s : Int} (h : (pairA x y && upTo p 255 && upTo s 1500) = true) : psSum x y p s = onesSum (psBytes x y p s) := by simp [psSum, h]
end Go.Proofs.Ythogonpjkngpjaa
