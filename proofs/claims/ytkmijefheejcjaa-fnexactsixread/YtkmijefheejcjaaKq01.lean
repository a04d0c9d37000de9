/-
  Small facts on memory that the walks of this seat share: a slice of bytes that reads as a list, rows of the call's own. Nothing here speaks of the program. 'append' onto a row of bytes of the call's own, from whatever source of bytes. What the laws' own four helpers on slices of bytes do: a copy, a comparison, a marking, a look at the marks. What Put16 and Put32 make, in the program and in the model. What Be16 and Be32 read, in the program and in the model. The laws' own copy of bytes by 'append'; slices of rows of bytes. Ethernet frames as four integers and a body. Plain: nothing here speaks of the program.
-/
import Derived.WalkKit
import Derived.Deep.Draws
import Derived.Lib.Hide
import Derived.Test.YtkmijefheejcjaaProg
import Derived.Outline
import Derived.Maps.AppendAt
import Derived.Deep.RegionLaw
import Derived.Deep.RegionHeld3
import Derived.Deep.QuietTactic
import Derived.BigQuiet
import Derived.Laws.BitsAllLaws
import Derived.Laws.BitsLemmas
namespace Go.Proofs.Ytkmijefheejcjaa
set_option maxRecDepth 100000
open Go.RowKit

/-- The cells of a list of bytes. -/
def cellsOf (bs : List UInt8) : List Value := bs.map fun b => .int .u8 (b.toNat : Int)

/-- The slice that begins at A reads as the bytes bs, and lies below block number B. -/
def RB (w : World) (B : Nat) (A : Option Addr) (bs : List UInt8) : Prop :=
  0 < bs.length → ∃ g o, A = some ⟨g, o, none⟩ ∧ g < B ∧ ∀ j (u : UInt8), bs[j]? = some u → w.cell? ⟨g, o + j, none⟩ = some (.int .u8 (u.toNat : Int))

theorem cellsOf_length (bs : List UInt8) : (cellsOf bs).length = bs.length := by simp [cellsOf]
theorem cellsOf_get (bs : List UInt8) (j : Nat) (u : UInt8) (h : bs[j]? = some u) : (cellsOf bs)[j]? = some (.int .u8 (u.toNat : Int)) := by simp [cellsOf, h]
theorem cellsOf_append (a b : List UInt8) : cellsOf (a ++ b) = cellsOf a ++ cellsOf b := by simp [cellsOf]
theorem cellsOf_one (bs : List UInt8) : ∀ u ∈ cellsOf bs, u.oneCell' = true := by
  intro u hu
  simp only [cellsOf, List.mem_map] at hu
  obtain ⟨b, _, rfl⟩ := hu
  rfl

section
variable {w w' : World} {B B' : Nat} {A : Option Addr} {bs : List UInt8}

theorem RB.below (h : RB w B A bs) (hb : Below B w w') : RB w' B A bs := by
  intro hp
  obtain ⟨g, o, e, hg, hc⟩ := h hp
  exact ⟨g, o, e, hg, fun j u hu => (hb.cell (p := ⟨g, o + j, none⟩) hg).trans (hc j u hu)⟩

theorem RB.more (h : RB w B A bs) (hB : B ≤ B') : RB w B' A bs := by
  intro hp
  obtain ⟨g, o, e, hg, hc⟩ := h hp
  exact ⟨g, o, e, by omega, hc⟩

theorem RB.at_ (h : RB w B A bs) {k : Nat} (hk : k < bs.length) : ∃ g o, A = some ⟨g, o, none⟩ ∧ g < B ∧ w.cell? ⟨g, o + k, none⟩ = some (.int .u8 (bs[k].toNat : Int)) := by
  obtain ⟨g, o, e, hg, hc⟩ := h (by omega)
  exact ⟨g, o, e, hg, hc k _ (List.getElem?_eq_getElem hk)⟩

theorem RB.nil_ (w : World) (B : Nat) (A : Option Addr) : RB w B A [] := fun h => absurd h (by simp)

theorem RB.of_own {base : Nat} {e : TypeId} {n c : Nat} (h : w.ownsRow base e 1 (.slice A n c) n (cellsOf bs)) : RB w w.heap.size A bs := by
  intro hp
  have hl := h.1
  rw [cellsOf_length] at hl
  rcases h.2 with ⟨h1, h2⟩ | ⟨g, cap, cur, hv, _, hg, _⟩
  · omega
  · injection hv with hA hn hc
    subst hA
    subst hc
    refine ⟨g, 0, rfl, (Array.getElem?_eq_some_iff.1 hg).1, fun j u hu => ?_⟩
    have hj : j < bs.length := by
      rcases Nat.lt_or_ge j bs.length with h | h
      · exact h
      · rw [List.getElem?_eq_none h] at hu; cases hu
    have := h.cellAt j (by omega)
    rw [Nat.zero_add, this]
    exact cellsOf_get bs j u hu
end

/-- What a world owns stays owned in a world that is as it was below all its blocks. -/
theorem own_below {w w' : World} {base : Nat} {e : TypeId} {size n : Nat} {v : Value} {xs : List Value} (h : w.ownsRow base e size v n xs) (hb : Below w.heap.size w w') : w'.ownsRow base e size v n xs := by
  refine ⟨h.1, ?_⟩
  rcases h.2 with hn | ⟨g, cap, cur, rfl, hbase, hg, rest⟩
  · exact .inl hn
  · exact .inr ⟨g, cap, cur, rfl, hbase, (hb.block g (Array.getElem?_eq_some_iff.1 hg).1).trans hg, rest⟩

theorem own_base {w : World} {base base' : Nat} {e : TypeId} {size n : Nat} {v : Value} {xs : List Value} (h : w.ownsRow base e size v n xs) (hb : base' ≤ base) : w.ownsRow base' e size v n xs := by
  refine ⟨h.1, ?_⟩
  rcases h.2 with hn | ⟨g, cap, cur, rfl, hbase, rest⟩
  · exact .inl hn
  · exact .inr ⟨g, cap, cur, rfl, by omega, rest⟩

theorem below_drewN {B : Nat} {a w : World} (h : Below B a w) (n : Nat) : Below B a (w.drewN n) := ⟨h.os, h.tape, h.output, h.size, h.block⟩

theorem ret_int {k : IntKind} {a b : Int} (h : a = b) : Ending.returned (.int k a) = .returned (.int k b) := by rw [h]
theorem ret_bool {a b : Bool} (h : a = b) : Ending.returned (.bool a) = .returned (.bool b) := by rw [h]

theorem set_mid (a : List Value) (x v : Value) (t : List Value) (k : Nat) (hk : a.length = k) : (a ++ x :: t).set k v = a ++ v :: t := by
  subst hk
  simp

/-- A row that is being filled: one cell more. -/
theorem fill_step (pre tail : List UInt8) (x b : UInt8) (k : Nat) (hk : pre.length = k) :
    (cellsOf (pre ++ x :: tail)).set k (.int .u8 (b.toNat : Int)) = cellsOf ((pre ++ [b]) ++ tail) := by
  have h := set_mid (cellsOf pre) (.int .u8 (x.toNat : Int)) (.int .u8 (b.toNat : Int)) (cellsOf tail) k (by rw [cellsOf_length]; exact hk)
  simpa [cellsOf] using h

theorem take_snoc {T : Type} (l : List T) (k : Nat) (h : k < l.length) : l.take (k + 1) = l.take k ++ [l[k]] := List.take_succ_eq_append_getElem h

theorem copy_step (bs : List UInt8) (k : Nat) (h : k < bs.length) :
    (cellsOf (bs.take k ++ List.replicate (bs.length - k) 0)).set k (.int .u8 (bs[k].toNat : Int)) = cellsOf (bs.take (k + 1) ++ List.replicate (bs.length - (k + 1)) 0) := by
  rw [show bs.length - k = (bs.length - (k + 1)) + 1 by omega, List.replicate_succ, fill_step _ _ _ _ k (by simp; omega), take_snoc bs k h]

/-- What is owned is a slice of that length. -/
theorem own_form {w : World} {base : Nat} {e : TypeId} {size n : Nat} {v : Value} {xs : List Value} (h : w.ownsRow base e size v n xs) : ∃ A c, v = .slice A n c := by
  rcases h.2 with ⟨rfl, rfl⟩ | ⟨g, cap, cur, rfl, _⟩
  · exact ⟨_, _, rfl⟩
  · exact ⟨_, _, rfl⟩
theorem bthen {a b c : World} (h : Below a.heap.size a b) (k : Below b.heap.size b c) : Below a.heap.size a c := h.trans (k.mono h.size)
theorem bgrown {a b c : World} {row : Option Nat} (h : Below a.heap.size a b) (g : b.grownBy c row) (l : ∀ k, row = some k → a.heap.size ≤ k) : Below a.heap.size a c := h.grown g h.size l

/-- What is owned from a block on which w' has kept is owned there still, whatever other row has turned. -/
theorem own_grown {w w' : World} {base : Nat} {e : TypeId} {size n : Nat} {v : Value} {xs : List Value} {row : Option Nat} (h : w.ownsRow base e size v n xs) (hg : w.grownBy w' row) (hne : ∀ k, v.ownBlock = some k → row ≠ some k) : w'.ownsRow base e size v n xs := by
  refine h.kept hg ?_
  cases hv : v.ownBlock with
  | none => exact .inl rfl
  | some k => exact .inr (fun e => hne k hv e.symm)

/-- A row that was there before another one was made is not that one. -/
theorem apart_of {v u : Value} {b B B' : Nat} (l1 : ∀ k, v.ownBlock = some k → b ≤ k ∧ k < B) (l2 : ∀ k, u.ownBlock = some k → B ≤ k ∧ k < B') : ∀ k, v.ownBlock = some k → u.ownBlock ≠ some k := by
  intro k h1 h2
  have := l1 k h1
  have := l2 k h2
  omega
end Go.Proofs.Ytkmijefheejcjaa

namespace Go.Proofs.Ytkmijefheejcjaa
set_option maxRecDepth 100000
open Go.RowKit

theorem info_u8 : (Try.prog.info? 5).map (fun i => (i.zero, i.size, i.bytes)) = some (some (.int .u8 0), 1, 1) := by kernel_rfl

theorem grownBy_trans {a b c : World} {row : Option Nat} (h : a.grownBy b row) (k : b.grownBy c row) : a.grownBy c row :=
  ⟨k.os.trans h.os, k.tape.trans h.tape, k.output.trans h.output, Nat.le_trans h.size k.size, fun i hi hne => (k.block i (Nat.lt_of_lt_of_le hi h.size) hne).trans (h.block i hi hne)⟩

theorem addr_add (g o j : Nat) : (⟨g, o, none⟩ : Addr).add j = ⟨g, o + j, none⟩ := by
  unfold Addr.add
  split <;> simp_all

set_option maxRecDepth 100000 in
theorem run_append_b (w : World) (ty base : Nat) (v : Value) (bs : List UInt8) (hown : w.ownsRow base 5 1 v bs.length (cellsOf bs)) (B : Nat) (A : Option Addr) (m c : Nat) (ds : List UInt8) (hm : ds.length = m) (hr : RB w B A ds)
    (hn : bs.length + ds.length ≤ 67108864) (hbase : base ≤ w.heap.size) :
    ∃ v' w', (Builtin.append_ #[22, 22] ty #[v, .slice A m c]).run Try.prog w = .ok v' w' ∧ w'.ownsRow base 5 1 v' (bs ++ ds).length (cellsOf (bs ++ ds)) ∧ w.grownBy w' v.ownBlock ∧
      (v'.ownBlock = v.ownBlock ∨ v'.ownBlock = some w.heap.size) := by
  obtain ⟨i0, hi0, hz0, hz1, hz2⟩ := info_parts info_u8
  subst hm
  rw [cellsOf_append, List.length_append]
  have hlen : (cellsOf ds).length = ds.length * 1 := by rw [cellsOf_length, Nat.mul_one]
  rcases A with _ | ad
  · have h0 : ds = [] := by
      rcases ds with _ | ⟨d, ds⟩
      · rfl
      · obtain ⟨g, o, h, _⟩ := hr (by simp)
        cases h
    subst h0
    refine ⟨v, w, ?_, by simpa [cellsOf] using hown, World.grownBy.refl _ _, .inl rfl⟩
    rcases hown.2 with ⟨rfl, h0⟩ | ⟨g, cap, cur, rfl, _, _, hnc, _⟩
    · simp [Builtin.append_, run_underlying Try.underlying22, sizeOf, typeInfo, hi0, Builtin.lenOf, Builtin.firstCells]
    · simp [Builtin.append_, run_underlying Try.underlying22, sizeOf, typeInfo, hi0, Builtin.lenOf, Builtin.firstCells, hnc, storeCells]
  · obtain ⟨v', w', h1, h2, h3, _, h5⟩ := run_append_own_at (P := Try.prog) w base 22 ty 5 i0 (.int .u8 0) 1 1 Try.underlying22 hi0 hz0 hz1 hz2 rfl (by omega) v bs.length (cellsOf bs) hown ad ds.length c (cellsOf ds) hlen (by
        intro j u hu
        have hj : j < ds.length := by
          rcases Nat.lt_or_ge j ds.length with h | h
          · exact h
          · rw [List.getElem?_eq_none (by rw [cellsOf_length]; exact h)] at hu; cases hu
        obtain ⟨g, o, h, _, hc⟩ := hr (by omega)
        injection h with h
        subst h
        rw [addr_add, hc j _ (List.getElem?_eq_getElem hj)]
        rw [cellsOf_get ds j _ (List.getElem?_eq_getElem hj)] at hu
        exact hu) (cellsOf_one ds) (by unfold maxLen; omega) (by omega) hbase
    exact ⟨v', w', h1, h2, h3, h5⟩

/-- 'append' onto a row of bytes of the call's own, from whatever source of bytes. -/
theorem wpList_append_b {w : World} {ops : Array Oper} {rest : List Oper} {o : Oper} {a : Act} {Q : Exit → Act → World → Prop} (hgd : o.guard = none) (s x : Operand)
    (ho : o.op = .call { callee := .builtin .append, args := #[s, x], argTypes := #[22, 22] }) (base : Nat) (v : Value) (bs : List UInt8) (hs : a.eval s = v) (hown : w.ownsRow base 5 1 v bs.length (cellsOf bs))
    (B : Nat) (A : Option Addr) (m c : Nat) (ds : List UInt8) (hx : a.eval x = .slice A m c) (hm : ds.length = m) (hr : RB w B A ds) (hn : bs.length + ds.length ≤ 67108864) (hbase : base ≤ w.heap.size)
    (h : ∀ v' w', w'.ownsRow base 5 1 v' (bs ++ ds).length (cellsOf (bs ++ ds)) → w.grownBy w' v.ownBlock → (v'.ownBlock = v.ownBlock ∨ v'.ownBlock = some w.heap.size) → wpList Try.prog ops Q rest (a.put o.dst v') w') :
    wpList Try.prog ops Q (o :: rest) a w := by
  refine wpList_plain hgd fun K hK => ?_
  obtain ⟨v', w', hrun, h2, h3, h4⟩ := run_append_b w o.type base v bs hown B A m c ds hm hr hn hbase
  unfold Oper.wp execOp
  simp only [ho, resolve, invoke, builtin, Sem.run_bind, Sem.run_pure, Result.andThen_ok, List.map_toArray, List.map_cons, List.map_nil, hs, hx, hrun]
  exact hK _ _ (h v' w' h2 h3 h4)

/-- The same, as one step of a region that draws its order. -/
theorem step_append_b {w : World} {ops : Array Oper} {o : Oper} {a : Act} {K : Act → World → Prop} {Q : Exit → Act → World → Prop} {E : Prop} (hgd : o.guard = none) (s x : Operand)
    (ho : o.op = .call { callee := .builtin .append, args := #[s, x], argTypes := #[22, 22] }) (base : Nat) (v : Value) (bs : List UInt8) (hs : a.eval s = v) (hown : w.ownsRow base 5 1 v bs.length (cellsOf bs))
    (B : Nat) (A : Option Addr) (m c : Nat) (ds : List UInt8) (hx : a.eval x = .slice A m c) (hm : ds.length = m) (hr : RB w B A ds) (hn : bs.length + ds.length ≤ 67108864) (hbase : base ≤ w.heap.size)
    (h : ∀ v' w', w'.ownsRow base 5 1 v' (bs ++ ds).length (cellsOf (bs ++ ds)) → w.grownBy w' v.ownBlock → (v'.ownBlock = v.ownBlock ∨ v'.ownBlock = some w.heap.size) → K (a.put o.dst v') w') :
    if Region.wanted o (yielded ops a.tmps) = true then Oper.wp Try.prog o a w K Q else E := by
  have hw : Region.wanted o (yielded ops a.tmps) = true := by simp [Region.wanted, hgd]
  rw [if_pos hw]
  obtain ⟨v', w', hrun, h2, h3, h4⟩ := run_append_b w o.type base v bs hown B A m c ds hm hr hn hbase
  unfold Oper.wp execOp
  simp only [ho, resolve, invoke, builtin, Sem.run_bind, Sem.run_pure, Result.andThen_ok, List.map_toArray, List.map_cons, List.map_nil, hs, hx, hrun]
  exact h v' w' h2 h3 h4

/-- A new row of one or more bytes reads as these. -/
theorem RB.new (w : World) (e : TypeId) (bs : List UInt8) : RB (w.alloc (.cells (cellsOf bs).toArray e)) (w.heap.size + 1) (some ⟨w.heap.size, 0, none⟩) bs := by
  intro hp
  refine ⟨w.heap.size, 0, rfl, by omega, fun j u hu => ?_⟩
  rw [cell_of_row _ w.heap.size (0 + j) _ e (0, 0) (heap_alloc_new w _)]
  simpa using cellsOf_get bs j u hu
end Go.Proofs.Ytkmijefheejcjaa

namespace Go.Proofs.Ytkmijefheejcjaa
set_option maxRecDepth 100000
open Go.RowKit

set_option maxHeartbeats 400000 in
theorem toB (A : Option Addr) (c : Nat) (bs : List UInt8) (w : World) (hr : RB w w.heap.size A bs) (hn : bs.length ≤ 1048576) :
    Calls Try.prog 30 #[.slice A bs.length c] w fun e w' => e = .returned (.slice (some ⟨w.heap.size, 0, none⟩) bs.length bs.length) ∧
      w'.ownsRow w.heap.size 5 1 (.slice (some ⟨w.heap.size, 0, none⟩) bs.length bs.length) bs.length (cellsOf bs) ∧ Below w.heap.size w w' := by
  obtain ⟨i0, hi0, hz0, hz1, hz2⟩ := info_parts info_u8
  go_enter Try.func30, Try.ntmps30
  go_wp2_with (at_make; refine wpList_make_full _ rfl _ _ 22 rfl w.heap.size 5 i0 (.int .u8 0) 1 Try.underlying22 hi0 hz0 hz1 _ _ _ _ bs.length rfl rfl rfl rfl (by rw [hz2]; omega) (by unfold maxLen; omega) (Nat.le_refl _) ?_; intro w1 hown hgrow)
  have hown0 : w1.ownsRow w.heap.size 5 1 (.slice (some ⟨w.heap.size, 0, none⟩) bs.length bs.length) bs.length (cellsOf (bs.take 0 ++ List.replicate (bs.length - 0) 0)) := by
    have e : (madeCells (Value.int IntKind.u8 0).cells (bs.length * 1)).toList = cellsOf (bs.take 0 ++ List.replicate (bs.length - 0) 0) := by
      have := toList_madeCells_one (.int .u8 0) bs.length
      simpa [Value.cells, cellsOf] using this
    rw [← e]; exact hown
  have hb1 : Below w.heap.size w w1 := (Below.refl _ _).grown hgrow (Nat.le_refl _) (by simp)
  clear hown hgrow
  go_loopw [4] (fun i wr => ∃ k : Nat, k ≤ bs.length ∧ i = .int .i64 k ∧ wr.ownsRow w.heap.size 5 1 (.slice (some ⟨w.heap.size, 0, none⟩) bs.length bs.length) bs.length (cellsOf (bs.take k ++ List.replicate (bs.length - k) 0)) ∧ Below w.heap.size w wr) (fun i _ => bs.length - (intOf i).toNat)
  case atStart => exact ⟨0, Nat.zero_le _, rfl, hown0, hb1⟩
  case round =>
    obtain ⟨k, hk, rfl, hown, hb⟩ := hrel
    clear hown0 hb1
    by_cases hlt : k < bs.length
    · obtain ⟨g, o, rfl, hg, hc0⟩ := hr.at_ hlt
      have hc : wr.cell? ⟨g, o + k, none⟩ = some (.int .u8 (bs[k].toNat : Int)) := (hb.cell (p := ⟨g, o + k, none⟩) hg).trans hc0
      have hfz := hown.frozenAt k
      obtain ⟨u, hu⟩ : ∃ u, wr.cell? ⟨w.heap.size, k, none⟩ = some u := by
        rw [hown.cellAt k (by omega)]
        exact ⟨_, List.getElem?_eq_getElem (by rw [cellsOf_length]; simp; omega)⟩
      have R := hown.stored k (.int .u8 (bs[k].toNat : Int))
      rw [copy_step bs k hlt] at R
      have R1 := Lib.hid R.1
      have R2 : Below w.heap.size w (wr.setCell ⟨w.heap.size, k, none⟩ (.int .u8 (bs[k].toNat : Int))) := hb.setCell (Nat.le_refl _) _
      clear R hown hc0 hr
      go_wp2
      go_roundw
      case rel => exact ⟨k + 1, by omega, by go_num, R1.out, R2⟩
      case measure => simp [intOf]; omega
    · obtain rfl : k = bs.length := by omega
      go_wp2
      go_ret
      exact ⟨rfl, by simpa using hown, hb⟩

set_option maxHeartbeats 400000 in
/-- Two slices that read as the same bytes are found equal. -/
theorem eqB (A D : Option Addr) (c d : Nat) (bs : List UInt8) (w : World) (hx : RB w w.heap.size A bs) (hy : RB w w.heap.size D bs) (hn : bs.length ≤ 1048576) :
    Calls Try.prog 32 #[.slice A bs.length c, .slice D bs.length d] w fun e w' => e = .returned (.bool true) ∧ Below w.heap.size w w' := by
  go_enter Try.func32, Try.ntmps32
  go_wp2
  go_loopw [5] (fun i wr => ∃ k m : Nat, k ≤ bs.length ∧ i = .int .i64 k ∧ wr = w.drewN m) (fun i _ => bs.length - (intOf i).toNat)
  case atStart => exact ⟨0, 0, Nat.zero_le _, rfl, rfl⟩
  case round =>
    obtain ⟨k, m, hk, rfl, rfl⟩ := hrel
    by_cases hlt : k < bs.length
    · obtain ⟨g, o, rfl, hg, hc⟩ := hx.at_ hlt
      obtain ⟨g', o', rfl, hg', hc'⟩ := hy.at_ hlt
      clear hx hy
      go_wp2
      go_quiet (fail)
      go_wp2
      go_roundw
      case rel => exact ⟨k + 1, _, by omega, by go_num, rfl⟩
      case measure => simp [intOf]; omega
    · go_wp2
      go_ret
      exact ⟨rfl, below_drewN (Below.refl _ _) _⟩

/-- The byte that the marking lays at place i, counted from k on. -/
def mark (k i : Nat) : UInt8 := UInt8.ofNat (k + i)
def marks (k n : Nat) : List UInt8 := (List.range n).map (mark k)
theorem marks_length (k n : Nat) : (marks k n).length = n := by simp [marks]
theorem marks_take (k n i : Nat) (h : i ≤ n) : (marks k n).take i = marks k i := by simp [marks, List.take_range, ← List.map_take, show min i n = i by omega]
theorem marks_succ (k i : Nat) : marks k (i + 1) = marks k i ++ [mark k i] := by simp [marks, List.range_succ]
theorem mark_val (k i : Nat) : ((mark k i).toNat : Int) = ((k : Int) + i) % 256 := by simp [mark]

theorem mark_step (k j : Nat) (bs : List UInt8) (h : j < bs.length) :
    (cellsOf (marks k j ++ bs.drop j)).set j (.int .u8 (((k : Int) + j) % 256)) = cellsOf (marks k (j + 1) ++ bs.drop (j + 1)) := by
  rw [List.drop_eq_getElem_cons h, ← mark_val, fill_step _ _ _ _ j (marks_length k j), marks_succ]

set_option maxHeartbeats 400000 in
/-- A row of the call's own is marked: its bytes are the numbers from k on; nothing else has turned. -/
theorem markB (A : Option Addr) (c base : Nat) (bs : List UInt8) (k : Nat) (w : World) (hown : w.ownsRow base 5 1 (.slice A bs.length c) bs.length (cellsOf bs)) (hn : bs.length ≤ 1048576) (hk : k ≤ 1048576) :
    Calls Try.prog 33 #[.slice A bs.length c, .int .i64 (k : Int)] w fun e w' => e = .returned (.int .i64 ((k : Int) + bs.length)) ∧
      w'.ownsRow base 5 1 (.slice A bs.length c) bs.length (cellsOf (marks k bs.length)) ∧ w.grownBy w' (Value.slice A bs.length c).ownBlock := by
  go_enter Try.func33, Try.ntmps33
  go_wp2
  go_loopw [1, 5] (fun q i wr => ∃ j : Nat, j ≤ bs.length ∧ i = .int .i64 j ∧ q = .int .i64 ((k : Int) + j) ∧ wr.ownsRow base 5 1 (.slice A bs.length c) bs.length (cellsOf (marks k j ++ bs.drop j)) ∧ w.grownBy wr (Value.slice A bs.length c).ownBlock) (fun _ i _ => bs.length - (intOf i).toNat)
  case atStart => exact ⟨0, Nat.zero_le _, rfl, by go_num, by simpa [marks] using hown, World.grownBy.refl _ _⟩
  case round =>
    obtain ⟨j, hj, rfl, rfl, ho, hg⟩ := hrel
    clear hown
    by_cases hlt : j < bs.length
    · obtain ⟨g, rfl⟩ : ∃ g, A = some ⟨g, 0, none⟩ := by
        rcases ho.2 with ⟨_, h2⟩ | ⟨g, cap, cur, hv, _⟩
        · omega
        · injection hv with hA
          exact ⟨g, hA⟩
      have hfz := ho.frozenAt j
      obtain ⟨u, hu⟩ : ∃ u, wr.cell? ⟨g, j, none⟩ = some u := by
        rw [ho.cellAt j (by omega)]
        exact ⟨_, List.getElem?_eq_getElem (by rw [cellsOf_length]; simp [marks_length]; omega)⟩
      have R := ho.stored j (.int .u8 (((k : Int) + j) % 256))
      rw [mark_step k j bs hlt] at R
      have R1 := Lib.hid R.1
      have R2 := Lib.hid (grownBy_trans hg (by simpa [Value.ownBlock] using R.2))
      clear R ho hg
      go_wp2
      go_roundw
      case rel => exact ⟨j + 1, by omega, by go_num, by go_num, R1.out, R2.out⟩
      case measure => simp [intOf]; omega
    · obtain rfl : j = bs.length := by omega
      go_wp2
      go_ret
      exact ⟨rfl, by simpa using ho, hg⟩

set_option maxHeartbeats 400000 in
/-- A slice that bears the marks from k on is found to bear them. -/
theorem heldB (A : Option Addr) (n c : Nat) (k : Nat) (w : World) (hr : RB w w.heap.size A (marks k n)) (hn : n ≤ 1048576) (hk : k ≤ 1048576) :
    Calls Try.prog 36 #[.slice A n c, .int .i64 (k : Int)] w fun e w' => e = .returned (.int .i64 ((k : Int) + n)) ∧ w = w' := by
  go_enter Try.func36, Try.ntmps36
  go_wp2
  go_loop [1, 5] (fun q i => ∃ j : Nat, j ≤ n ∧ i = .int .i64 j ∧ q = .int .i64 ((k : Int) + j)) (fun _ i => n - (intOf i).toNat)
  case atStart => exact ⟨0, Nat.zero_le _, rfl, by go_num⟩
  case round =>
    obtain ⟨j, hj, rfl, rfl⟩ := hrel
    by_cases hlt : j < n
    · obtain ⟨g, o, rfl, hg, hc0⟩ := hr.at_ (k := j) (by rw [marks_length]; exact hlt)
      have hc : w.cell? ⟨g, o + j, none⟩ = some (.int .u8 (((k : Int) + j) % 256)) := by
        rw [hc0]
        simp [marks, mark_val]
      clear hc0 hr
      go_wp2
      go_round
      case rel => exact ⟨j + 1, by omega, by go_num, by go_num⟩
      case measure => simp [intOf]; omega
    · obtain rfl : j = n := by omega
      go_wp2
      go_ret
      exact ⟨rfl, rfl⟩

theorem eqBn (A D : Option Addr) (n c d : Nat) (bs : List UInt8) (w : World) (hx : RB w w.heap.size A bs) (hy : RB w w.heap.size D bs) (hl : bs.length = n) (hn : n ≤ 1048576) :
    Calls Try.prog 32 #[.slice A n c, .slice D n d] w fun e w' => e = .returned (.bool true) ∧ Below w.heap.size w w' := by
  subst hl
  exact eqB A D c d bs w hx hy hn

theorem markBn (A : Option Addr) (n c base : Nat) (bs : List UInt8) (k : Int) (w : World) (hown : w.ownsRow base 5 1 (.slice A n c) n (cellsOf bs)) (hn : n ≤ 1048576) (h0 : 0 ≤ k) (hk : k ≤ 1048576) :
    Calls Try.prog 33 #[.slice A n c, .int .i64 k] w fun e w' => e = .returned (.int .i64 (k + n)) ∧
      w'.ownsRow base 5 1 (.slice A n c) n (cellsOf (marks k.toNat n)) ∧ w.grownBy w' (Value.slice A n c).ownBlock := by
  have hl : bs.length = n := by
    have := hown.1
    rw [cellsOf_length] at this
    omega
  subst hl
  have h := markB A c base bs k.toNat w hown hn (by omega)
  rw [Int.toNat_of_nonneg h0] at h
  exact h

theorem heldBn (A : Option Addr) (n c : Nat) (k : Int) (w : World) (hr : RB w w.heap.size A (marks k.toNat n)) (hn : n ≤ 1048576) (h0 : 0 ≤ k) (hk : k ≤ 1048576) :
    Calls Try.prog 36 #[.slice A n c, .int .i64 k] w fun e w' => e = .returned (.int .i64 (k + n)) ∧ w = w' := by
  have h := heldB A n c k.toNat w hr hn (by omega)
  rw [Int.toNat_of_nonneg h0] at h
  exact h


end Go.Proofs.Ytkmijefheejcjaa

namespace Go.Proofs.Ytkmijefheejcjaa
set_option maxRecDepth 100000
open Go.RowKit

def byteOf (n : Int) : UInt8 := UInt8.ofNat (n % 256).toNat
theorem byteOf_val (n : Int) : ((byteOf n).toNat : Int) = n % 256 := by
  unfold byteOf
  have : (n % 256).toNat < 256 := by omega
  simp [UInt8.toNat_ofNat_of_lt' (show (n % 256).toNat < UInt8.size by simpa using this)]
  omega
def put16 (n : Int) : List UInt8 := [byteOf (n / 256), byteOf n]
def put32 (n : Int) : List UInt8 := [byteOf (n / 16777216), byteOf (n / 65536), byteOf (n / 256), byteOf n]

set_option maxHeartbeats 400000 in
theorem implPut16 (n : Int) (w : World) :
    Calls Try.prog 58 #[.int .i64 n] w fun e w' => e = .returned (.slice (some ⟨w.heap.size, 0, none⟩) 2 2) ∧
      w'.ownsRow w.heap.size 5 1 (.slice (some ⟨w.heap.size, 0, none⟩) 2 2) 2 (cellsOf (put16 n)) ∧ Below w.heap.size w w' := by
  go_enter Try.func58, Try.ntmps58
  go_wp2
  go_ret
  have e : cellsOf (put16 n) = [.int .u8 (n / 256 % 256), .int .u8 (n % 256)] := by simp [cellsOf, put16, byteOf_val]
  rw [e]
  exact ⟨rfl, World.ownsRow_lit w _ 2 (Nat.le_refl _) (by decide) rfl, (Below.refl _ _).alloc (Nat.le_refl _) _⟩

set_option maxHeartbeats 400000 in
theorem implPut32 (n : Int) (w : World) :
    Calls Try.prog 57 #[.int .i64 n] w fun e w' => e = .returned (.slice (some ⟨w.heap.size, 0, none⟩) 4 4) ∧
      w'.ownsRow w.heap.size 5 1 (.slice (some ⟨w.heap.size, 0, none⟩) 4 4) 4 (cellsOf (put32 n)) ∧ Below w.heap.size w w' := by
  go_enter Try.func57, Try.ntmps57
  go_wp2
  go_ret
  have e : cellsOf (put32 n) = [.int .u8 (n / 16777216 % 256), .int .u8 (n / 65536 % 256), .int .u8 (n / 256 % 256), .int .u8 (n % 256)] := by simp [cellsOf, put32, byteOf_val]
  rw [e]
  exact ⟨rfl, World.ownsRow_lit w _ 4 (Nat.le_refl _) (by decide) rfl, (Below.refl _ _).alloc (Nat.le_refl _) _⟩

theorem tmod_fix (n m : Int) (hm : 0 < m) : -m < n.tmod m ∧ n.tmod m < m ∧ (0 ≤ n.tmod m → n.tmod m = n % m) ∧ (n.tmod m < 0 → n.tmod m + m = n % m) := by
  have h0 := Int.emod_nonneg n (show m ≠ 0 by omega)
  have h1 := Int.emod_lt_of_pos n hm
  have h2 := Int.tmod_eq_emod (a := n) (b := m)
  have h3 : (m.natAbs : Int) = m := by omega
  have h4 : ¬ m ∣ n → n % m ≠ 0 := fun h e => h (Int.dvd_of_emod_eq_zero e)
  by_cases hd : 0 ≤ n ∨ m ∣ n
  · rw [if_pos hd] at h2; omega
  · rw [if_neg hd, h3] at h2
    have h5 := h4 (fun h => hd (.inr h))
    omega

set_option maxHeartbeats 400000 in
theorem low16 (n : Int) (w : World) :
    Calls Try.prog 128 #[.int .i64 n, .int .i64 65536] w fun e w' => e = .returned (.int .i64 (n % 65536)) ∧ w = w' := by
  obtain ⟨b1, b2, b3, b4⟩ := tmod_fix n 65536 (by omega)
  have H3 := Lib.hid b3
  have H4 := Lib.hid b4
  clear b3 b4
  go_enter Try.func128, Try.ntmps128
  go_wp2
  · go_ret
    exact ⟨ret_int (H4.out (by assumption)), rfl⟩
  · go_ret
    exact ⟨ret_int (H3.out (by assumption)), rfl⟩

set_option maxHeartbeats 400000 in
theorem low32 (n : Int) (w : World) :
    Calls Try.prog 128 #[.int .i64 n, .int .i64 4294967296] w fun e w' => e = .returned (.int .i64 (n % 4294967296)) ∧ w = w' := by
  obtain ⟨b1, b2, b3, b4⟩ := tmod_fix n 4294967296 (by omega)
  have H3 := Lib.hid b3
  have H4 := Lib.hid b4
  clear b3 b4
  go_enter Try.func128, Try.ntmps128
  go_wp2
  · go_ret
    exact ⟨ret_int (H4.out (by assumption)), rfl⟩
  · go_ret
    exact ⟨ret_int (H3.out (by assumption)), rfl⟩

set_option maxHeartbeats 400000 in
theorem specPut16 (n : Int) (w : World) :
    Calls Try.prog 84 #[.int .i64 n] w fun e w' => e = .returned (.slice (some ⟨w.heap.size, 0, none⟩) 2 2) ∧
      w'.ownsRow w.heap.size 5 1 (.slice (some ⟨w.heap.size, 0, none⟩) 2 2) 2 (cellsOf (put16 n)) ∧ Below w.heap.size w w' := by
  have h0 := Int.emod_nonneg n (show (65536 : Int) ≠ 0 by omega)
  have h1 := Int.emod_lt_of_pos n (show (0 : Int) < 65536 by omega)
  go_enter Try.func84, Try.ntmps84
  go_wp2_with (go_at_call 128; refine (low16 _ _).mono ?_; rintro e w' ⟨rfl, rfl⟩)
  go_ret
  have e : cellsOf (put16 n) = [.int .u8 (n % 65536 / 256), .int .u8 (n % 256)] := by
    simp [cellsOf, put16, byteOf_val]
    omega
  rw [e]
  exact ⟨rfl, World.ownsRow_lit w _ 2 (Nat.le_refl _) (by decide) rfl, (Below.refl _ _).alloc (Nat.le_refl _) _⟩

set_option maxHeartbeats 400000 in
theorem specPut32 (n : Int) (w : World) :
    Calls Try.prog 101 #[.int .i64 n] w fun e w' => ∃ A c, e = .returned (.slice A 4 c) ∧
      w'.ownsRow w.heap.size 5 1 (.slice A 4 c) 4 (cellsOf (put32 n)) ∧ Below w.heap.size w w' := by
  have h0 := Int.emod_nonneg n (show (4294967296 : Int) ≠ 0 by omega)
  have h1 := Int.emod_lt_of_pos n (show (0 : Int) < 4294967296 by omega)
  obtain ⟨i0, hi0, hz0, hz1, hz2⟩ := info_parts info_u8
  go_enter Try.func101, Try.ntmps101
  go_wp2_with (go_at_call 128; refine (low32 _ _).mono ?_; rintro e w' ⟨rfl, rfl⟩)
  refine (specPut16 _ _).mono ?_
  rintro e w1 ⟨rfl, hown1, hb1⟩
  go_wp2_with fail
  refine (specPut16 _ _).mono ?_
  rintro e w2 ⟨rfl, hown2, hb2⟩
  go_wp2_with (at_builtin; (refine wpList_append_b rfl (.tmp 8) (.tmp 11) rfl w.heap.size (.slice (some ⟨w.heap.size, 0, none⟩) 2 2) (put16 (n % 4294967296 / 65536)) rfl (own_below hown1 hb2) w2.heap.size (some ⟨w1.heap.size, 0, none⟩) 2 2 (put16 (n % 65536)) rfl rfl (RB.of_own hown2) (by simp [put16]) (Nat.le_trans hb1.size hb2.size) ?_); intro v3 w3 hown3 hg3 _)
  go_ret
  obtain ⟨A, c, rfl⟩ := own_form hown3
  have e : put16 (n % 4294967296 / 65536) ++ put16 (n % 65536) = put32 n := by
    simp only [put16, put32, List.cons_append, List.nil_append, byteOf]
    rw [show n % 4294967296 / 65536 / 256 % 256 = n / 16777216 % 256 by omega, show n % 4294967296 / 65536 % 256 = n / 65536 % 256 by omega, show n % 65536 / 256 % 256 = n / 256 % 256 by omega, show n % 65536 % 256 = n % 256 by omega]
  rw [e] at hown3
  exact ⟨A, c, rfl, hown3, (hb1.trans (hb2.mono hb1.size)).grown hg3 (Nat.le_trans hb1.size hb2.size) (by simp [Value.ownBlock])⟩
end Go.Proofs.Ytkmijefheejcjaa

namespace Go.Proofs.Ytkmijefheejcjaa
set_option maxRecDepth 100000
open Go.RowKit

def be (l : List UInt8) : Nat := l.foldl (fun n b => 256 * n + b.toNat) 0
theorem be_snoc (l : List UInt8) (b : UInt8) : be (l ++ [b]) = 256 * be l + b.toNat := by simp [be]
theorem be_from (l : List UInt8) : ∀ a : Nat, l.foldl (fun n b => 256 * n + b.toNat) a < (a + 1) * 256 ^ l.length := by
  induction l with
  | nil => intro a; simp
  | cons b l ih =>
    intro a
    have hb : b.toNat < 256 := UInt8.toNat_lt b
    have h := ih (256 * a + b.toNat)
    have h2 : (256 * a + b.toNat + 1) * 256 ^ l.length ≤ (256 * (a + 1)) * 256 ^ l.length := Nat.mul_le_mul_right _ (by omega)
    simp only [List.foldl_cons, List.length_cons, Nat.pow_succ]
    have h3 : (a + 1) * (256 ^ l.length * 256) = (256 * (a + 1)) * 256 ^ l.length := by rw [Nat.mul_comm (256 ^ l.length) 256, ← Nat.mul_assoc, Nat.mul_comm (a + 1) 256]
    omega
theorem be_lt (l : List UInt8) : be l < 256 ^ l.length := by
  have := be_from l 0
  simpa [be] using this
theorem be_lt3 (l : List UInt8) (j : Nat) (h : j ≤ 3) : be (l.take j) < 16777216 := by
  have h1 := be_lt (l.take j)
  have h2 : 256 ^ (l.take j).length ≤ 256 ^ 3 := Nat.pow_le_pow_right (by omega) (Nat.le_trans (List.length_take_le _ _) h)
  omega

theorem ofInt_i64 (a : Nat) (ha : a < 9223372036854775808) : (BitVec.ofInt 64 (a : Int)).toNat = a := by
  rw [BitVec.ofInt_natCast, BitVec.toNat_ofNat]
  exact Nat.mod_eq_of_lt (by omega)

/-- 'n<<8 | b' of a small n and a byte. -/
theorem or_byte (m b : Nat) (hm : m < 4294967296) (hb : b < 256) : bits .or .i64 ((m : Int) * 256) (b : Int) = (m : Int) * 256 + b := by
  have e : ((m : Int) * 256) = ((256 * m : Nat) : Int) := by omega
  have ho : 256 * m ||| b = 256 * m + b := (Nat.two_pow_add_eq_or_of_lt (i := 8) (by simpa using hb) m).symm
  rw [e]
  show IntKind.i64.wrap ((BitVec.ofInt 64 ((256 * m : Nat) : Int) ||| BitVec.ofInt 64 (b : Int)).toNat : Int) = _
  rw [BitVec.toNat_or, ofInt_i64 _ (by omega), ofInt_i64 b (by omega), ho, IntKind.wrap_i64]
  omega

set_option maxHeartbeats 400000 in
theorem within_yes (n lo hi : Int) (w : World) (h1 : lo ≤ n) (h2 : n ≤ hi) :
    Calls Try.prog 102 #[.int .i64 n, .int .i64 lo, .int .i64 hi] w fun e w' => e = .returned (.bool true) ∧ w = w' := by
  have h3 : ¬ n < lo := by omega
  have h4 : ¬ hi < n := by omega
  go_enter Try.func102, Try.ntmps102
  go_wp2
  go_ret
  exact ⟨rfl, rfl⟩

set_option maxHeartbeats 400000 in
theorem within_no (n lo hi : Int) (w : World) (h : n < lo ∨ hi < n) :
    Calls Try.prog 102 #[.int .i64 n, .int .i64 lo, .int .i64 hi] w fun e w' => e = .returned (.bool false) ∧ w = w' := by
  by_cases h1 : n < lo
  · have h2 : (lo == n) = false := by simp; omega
    go_enter Try.func102, Try.ntmps102
    go_wp2
    go_ret
    exact ⟨rfl, rfl⟩
  · have h3 : hi < n := by omega
    have h2 : (hi == n) = false := by simp; omega
    go_enter Try.func102, Try.ntmps102
    go_wp2
    go_ret
    exact ⟨rfl, rfl⟩

set_option maxHeartbeats 400000 in
theorem implBig_no (A : Option Addr) (c : Nat) (bs : List UInt8) (k : Int) (s : Nat) (w : World) (hn : bs.length ≤ 1048576) (hs : s ≤ 4) (h : k < 0 ∨ (bs.length : Int) - s < k) :
    Calls Try.prog 134 #[.slice A bs.length c, .int .i64 k, .int .i64 s] w fun e w' => e = .returned (.tuple #[.int .i64 0, .bool false]) ∧ w = w' := by
  have H := Lib.hid h
  clear h
  go_enter Try.func134, Try.ntmps134
  go_wp2_with (go_at_call 102; refine (within_no _ _ _ _ H.out).mono ?_; rintro e w' ⟨rfl, rfl⟩)
  go_ret2
  exact ⟨rfl, rfl⟩

set_option maxHeartbeats 400000 in
theorem implBig (A : Option Addr) (c : Nat) (bs : List UInt8) (k : Nat) (s : Nat) (w : World) (hr : RB w w.heap.size A bs) (hn : bs.length ≤ 1048576) (hc : bs.length ≤ c) (hs0 : 0 < s) (hs : s ≤ 4) (h : k + s ≤ bs.length) :
    Calls Try.prog 134 #[.slice A bs.length c, .int .i64 (k : Int), .int .i64 s] w fun e w' => e = .returned (.tuple #[.int .i64 (be ((bs.drop k).take s)), .bool true]) ∧ w = w' := by
  obtain ⟨g, o, rfl, hg, hcell⟩ := hr (by omega)
  have hne : ¬ c = k := by omega
  go_enter Try.func134, Try.ntmps134
  go_wp2_with (go_at_call 102; refine (within_yes _ _ _ _ (by omega) (by omega)).mono ?_; rintro e w' ⟨rfl, rfl⟩)
  go_loop [8, 25] (fun n i => ∃ j : Nat, j ≤ s ∧ i = .int .i64 j ∧ n = .int .i64 (be ((bs.drop k).take j))) (fun _ i => s - (intOf i).toNat)
  case atStart => exact ⟨0, Nat.zero_le _, rfl, rfl⟩
  case round =>
    obtain ⟨j, hj, rfl, rfl⟩ := hrel
    by_cases hlt : j < s
    · have hc0 : w.cell? ⟨g, o + k + j, none⟩ = some (.int .u8 (bs[k + j].toNat : Int)) := by
        rw [Nat.add_assoc]
        exact hcell (k + j) _ (List.getElem?_eq_getElem (by omega))
      have hb : (bs[k + j].toNat) < 256 := UInt8.toNat_lt _
      have hm := be_lt3 (bs.drop k) j (by omega)
      have hor := or_byte (be ((bs.drop k).take j)) bs[k + j].toNat (by omega) hb
      have hst := Lib.hid (show be ((bs.drop k).take (j + 1)) = 256 * be ((bs.drop k).take j) + bs[k + j].toNat by
        rw [take_snoc _ j (by simp; omega), be_snoc]
        simp)
      clear hcell
      go_wp2
      go_round
      case rel => exact ⟨j + 1, by omega, by go_num, by rw [hst.out]; go_num⟩
      case measure => simp [intOf]; omega
    · obtain rfl : j = s := by omega
      go_wp2
      go_ret2
      exact ⟨rfl, rfl⟩

set_option maxHeartbeats 400000 in
theorem implBe16 (A : Option Addr) (n c : Nat) (bs : List UInt8) (k : Nat) (w : World) (hr : RB w w.heap.size A bs) (hl : bs.length = n) (hn : n ≤ 1048576) (hc : n ≤ c) (h : k + 2 ≤ n) :
    Calls Try.prog 112 #[.slice A n c, .int .i64 (k : Int)] w fun e w' => e = .returned (.tuple #[.int .i64 (be ((bs.drop k).take 2)), .bool true]) ∧ w = w' := by
  subst hl
  go_enter Try.func112, Try.ntmps112
  go_wp2_with (go_at_call 134; refine (implBig A c bs k 2 w hr hn hc (by omega) (by omega) h).mono ?_; rintro e w' ⟨rfl, rfl⟩)
  go_ret2
  exact ⟨rfl, rfl⟩

set_option maxHeartbeats 400000 in
theorem implBe32 (A : Option Addr) (n c : Nat) (bs : List UInt8) (k : Nat) (w : World) (hr : RB w w.heap.size A bs) (hl : bs.length = n) (hn : n ≤ 1048576) (hc : n ≤ c) (h : k + 4 ≤ n) :
    Calls Try.prog 139 #[.slice A n c, .int .i64 (k : Int)] w fun e w' => e = .returned (.tuple #[.int .i64 (be ((bs.drop k).take 4)), .bool true]) ∧ w = w' := by
  subst hl
  go_enter Try.func139, Try.ntmps139
  go_wp2_with (go_at_call 134; refine (implBig A c bs k 4 w hr hn hc (by omega) (by omega) h).mono ?_; rintro e w' ⟨rfl, rfl⟩)
  go_ret2
  exact ⟨rfl, rfl⟩

set_option maxHeartbeats 400000 in
theorem implBe16_no (A : Option Addr) (n c : Nat) (bs : List UInt8) (k : Int) (w : World) (hl : bs.length = n) (hn : n ≤ 1048576) (h : k < 0 ∨ (n : Int) - 2 < k) :
    Calls Try.prog 112 #[.slice A n c, .int .i64 k] w fun e w' => e = .returned (.tuple #[.int .i64 0, .bool false]) ∧ w = w' := by
  subst hl
  have H := Lib.hid (implBig_no A c bs k 2 w hn (by omega) h)
  clear h
  go_enter Try.func112, Try.ntmps112
  go_wp2_with (go_at_call 134; refine H.out.mono ?_; rintro e w' ⟨rfl, rfl⟩)
  go_ret2
  exact ⟨rfl, rfl⟩

set_option maxHeartbeats 400000 in
theorem implBe32_no (A : Option Addr) (n c : Nat) (bs : List UInt8) (k : Int) (w : World) (hl : bs.length = n) (hn : n ≤ 1048576) (h : k < 0 ∨ (n : Int) - 4 < k) :
    Calls Try.prog 139 #[.slice A n c, .int .i64 k] w fun e w' => e = .returned (.tuple #[.int .i64 0, .bool false]) ∧ w = w' := by
  subst hl
  have H := Lib.hid (implBig_no A c bs k 4 w hn (by omega) h)
  clear h
  go_enter Try.func139, Try.ntmps139
  go_wp2_with (go_at_call 134; refine H.out.mono ?_; rintro e w' ⟨rfl, rfl⟩)
  go_ret2
  exact ⟨rfl, rfl⟩

set_option maxHeartbeats 400000 in
theorem specBe16_no (A : Option Addr) (n c : Nat) (k : Int) (w : World) (hn : n ≤ 1048576) (h : k < 0 ∨ (n : Int) - 2 < k) :
    Calls Try.prog 89 #[.slice A n c, .int .i64 k] w fun e w' => e = .returned (.tuple #[.int .i64 0, .bool false]) ∧ w = w' := by
  by_cases h0 : k < 0
  · clear h
    go_enter Try.func89, Try.ntmps89
    go_wp2
    go_ret2
    exact ⟨rfl, rfl⟩
  · have h1 : (n : Int) - 2 < k := by omega
    clear h
    go_enter Try.func89, Try.ntmps89
    go_wp2
    go_ret2
    exact ⟨rfl, rfl⟩

set_option maxHeartbeats 400000 in
theorem specBe32_no (A : Option Addr) (n c : Nat) (k : Int) (w : World) (hn : n ≤ 1048576) (h : k < 0 ∨ (n : Int) - 4 < k) :
    Calls Try.prog 90 #[.slice A n c, .int .i64 k] w fun e w' => e = .returned (.tuple #[.int .i64 0, .bool false]) ∧ w = w' := by
  by_cases h0 : k < 0
  · clear h
    go_enter Try.func90, Try.ntmps90
    go_wp2
    go_ret2
    exact ⟨rfl, rfl⟩
  · have h1 : (n : Int) - 4 < k := by omega
    clear h
    go_enter Try.func90, Try.ntmps90
    go_wp2
    go_ret2
    exact ⟨rfl, rfl⟩

theorem two_bytes (a b : UInt8) : wrap64 (wrap64 (256 * wrap64 (a.toNat : Int)) + wrap64 (b.toNat : Int)) = ((256 * a.toNat + b.toNat : Nat) : Int) := by
  have ha : a.toNat < 256 := UInt8.toNat_lt a
  have hb : b.toNat < 256 := UInt8.toNat_lt b
  rw [IntWalk.wrap64_in (a.toNat : Int) (by omega), IntWalk.wrap64_in (b.toNat : Int) (by omega), IntWalk.wrap64_in (256 * (a.toNat : Int)) (by omega), IntWalk.wrap64_in _ (by omega)]
  omega

set_option maxHeartbeats 400000 in
theorem specBe16 (A : Option Addr) (n c : Nat) (bs : List UInt8) (k : Nat) (w : World) (hr : RB w w.heap.size A bs) (hl : bs.length = n) (hn : n ≤ 1048576) (h : k + 2 ≤ n) :
    Calls Try.prog 89 #[.slice A n c, .int .i64 (k : Int)] w fun e w' => e = .returned (.tuple #[.int .i64 (be ((bs.drop k).take 2)), .bool true]) ∧ Below w.heap.size w w' := by
  subst hl
  obtain ⟨g, o, rfl, hg, hcell⟩ := hr (by omega)
  have h1 := hcell k _ (List.getElem?_eq_getElem (by omega))
  have h2 := hcell (k + 1) _ (List.getElem?_eq_getElem (by omega))
  have e := Lib.hid (show be ((bs.drop k).take 2) = 256 * bs[k].toNat + bs[k + 1].toNat by
    rw [take_snoc _ 1 (by simp; omega), take_snoc _ 0 (by simp; omega), be_snoc, List.take_zero, be_snoc]
    simp [be])
  clear hcell
  go_enter Try.func89, Try.ntmps89
  go_wp2
  go_quiet (fail)
  go_wp2
  go_ret2
  refine ⟨?_, below_drewN (Below.refl _ _) _⟩
  rw [e.out, ← two_bytes bs[k] bs[k + 1]]
  rfl

set_option maxHeartbeats 400000 in
theorem specBe32 (A : Option Addr) (n c : Nat) (bs : List UInt8) (k : Nat) (w : World) (hr : RB w w.heap.size A bs) (hl : bs.length = n) (hn : n ≤ 1048576) (h : k + 4 ≤ n) :
    Calls Try.prog 90 #[.slice A n c, .int .i64 (k : Int)] w fun e w' => e = .returned (.tuple #[.int .i64 (be ((bs.drop k).take 4)), .bool true]) ∧ Below w.heap.size w w' := by
  subst hl
  obtain ⟨g, o, rfl, hg, hcell⟩ := hr (by omega)
  go_enter Try.func90, Try.ntmps90
  go_wp2
  go_loop [6, 7] (fun n i => ∃ j : Nat, j ≤ 4 ∧ i = .int .i64 j ∧ n = .int .i64 (be ((bs.drop k).take j))) (fun _ i => 4 - (intOf i).toNat)
  case atStart => exact ⟨0, Nat.zero_le _, rfl, rfl⟩
  case round =>
    obtain ⟨j, hj, rfl, rfl⟩ := hrel
    by_cases hlt : j < 4
    · have hc0 : w.cell? ⟨g, o + (k + j), none⟩ = some (.int .u8 (bs[k + j].toNat : Int)) := hcell (k + j) _ (List.getElem?_eq_getElem (by omega))
      have hb : (bs[k + j].toNat) < 256 := UInt8.toNat_lt _
      have hm := be_lt3 (bs.drop k) j (by omega)
      have hst := Lib.hid (show be ((bs.drop k).take (j + 1)) = 256 * be ((bs.drop k).take j) + bs[k + j].toNat by
        rw [take_snoc _ j (by simp; omega), be_snoc]
        simp)
      clear hcell
      go_wp2
      go_round
      case rel => exact ⟨j + 1, by omega, by go_num, by rw [hst.out]; go_num⟩
      case measure => simp [intOf]; omega
    · obtain rfl : j = 4 := by omega
      go_wp2
      go_ret2
      exact ⟨rfl, Below.refl _ _⟩
end Go.Proofs.Ytkmijefheejcjaa

namespace Go.Proofs.Ytkmijefheejcjaa
set_option maxRecDepth 100000
open Go.RowKit

set_option maxHeartbeats 400000 in
theorem bytesOfC (D : Option Addr) (n d : Nat) (ds : List UInt8) (w : World) (hr : RB w w.heap.size D ds) (hl : ds.length = n) (hn : n ≤ 1048576) :
    Calls Try.prog 20 #[.slice D n d] w fun e w' => ∃ A c, e = .returned (.slice A n c) ∧ w'.ownsRow w.heap.size 5 1 (.slice A n c) n (cellsOf ds) ∧ Below w.heap.size w w' := by
  subst hl
  have o0 : (w.alloc (.cells #[] 5)).ownsRow w.heap.size 5 1 (.slice (some ⟨w.heap.size, 0, none⟩) 0 0) ([] : List UInt8).length (cellsOf []) := World.ownsRow_lit w #[] 0 (Nat.le_refl _) (Nat.zero_le _) rfl
  have hb0 : Below w.heap.size w (w.alloc (.cells #[] 5)) := (Below.refl _ _).alloc (Nat.le_refl _) _
  have r0 := hr.below hb0
  go_enter Try.func20, Try.ntmps20
  go_wp2_with (at_builtin; refine wpList_append_b rfl (.tmp 3) (.tmp 4) rfl w.heap.size (.slice (some ⟨w.heap.size, 0, none⟩) 0 0) [] rfl o0 _ D ds.length d ds rfl rfl r0 (by simp; omega) (by simp) ?_; intro v3 w3 hown3 hg3 _)
  go_ret
  obtain ⟨A, c, rfl⟩ := own_form hown3
  exact ⟨A, c, rfl, hown3, hb0.grown hg3 (by simp) (by simp [Value.ownBlock])⟩

theorem own_cap {w : World} {base : Nat} {e : TypeId} {size n c : Nat} {A : Option Addr} {xs : List Value} (h : w.ownsRow base e size (.slice A n c) n xs) : n ≤ c := by
  rcases h.2 with ⟨h1, h2⟩ | ⟨g, cap, cur, hv, _, _, hn, _⟩
  · omega
  · injection hv with _ _ hc
    omega

theorem own_some {w : World} {base : Nat} {e : TypeId} {size n c : Nat} {A : Option Addr} {xs : List Value} (h : w.ownsRow base e size (.slice A n c) n xs) (hn : 0 < n) : ∃ g, A = some ⟨g, 0, none⟩ ∧ base ≤ g := by
  rcases h.2 with ⟨h1, h2⟩ | ⟨g, cap, cur, hv, hb, _⟩
  · omega
  · injection hv with hA
    exact ⟨g, hA, hb⟩

/-- The front of a row of bytes of the call's own. -/
theorem own_front {w : World} {base : Nat} {e : TypeId} {A : Option Addr} {n c : Nat} {bs : List UInt8} (h : w.ownsRow base e 1 (.slice A n c) n (cellsOf bs)) (m : Nat) (hm : m ≤ n) : w.ownsRow base e 1 (.slice A m c) m (cellsOf (bs.take m)) := by
  have hl := h.1
  rw [cellsOf_length] at hl
  refine ⟨by rw [cellsOf_length, List.length_take]; omega, ?_⟩
  rcases h.2 with ⟨h1, h2⟩ | ⟨g, cap, cur, hv, hb, hg, hn, hcap, hsz, htake⟩
  · left
    injection h1 with hA hn hc
    subst hA
    subst hc
    obtain rfl : m = 0 := by omega
    exact ⟨rfl, rfl⟩
  · right
    injection hv with hA _ hc
    subst hA
    subst hc
    refine ⟨g, c, cur, rfl, hb, hg, by omega, hcap, hsz, ?_⟩
    have h3 : (cur.toList.take (n * 1)).take (m * 1) = (cellsOf bs).take (m * 1) := by rw [htake]
    rw [List.take_take, Nat.min_eq_left (by omega)] at h3
    rw [h3, cellsOf, cellsOf, List.map_take, Nat.mul_one]

/-- A slice that reads as bytes: its front and its back read as these bytes' front and back. -/
theorem RB.front {w : World} {B : Nat} {A : Option Addr} {bs : List UInt8} (h : RB w B A bs) (m : Nat) : RB w B A (bs.take m) := by
  intro hp
  have hp' : 0 < bs.length := by rw [List.length_take] at hp; omega
  obtain ⟨g, o, e, hg, hc⟩ := h hp'
  refine ⟨g, o, e, hg, fun j u hu => hc j u ?_⟩
  rw [List.getElem?_take] at hu
  split at hu
  · exact hu
  · cases hu

theorem RB.back {w : World} {B : Nat} {A : Option Addr} {bs : List UInt8} (h : RB w B A bs) (m c : Nat) (hc : bs.length ≤ c) : RB w B (if c = m then A else A.map (·.add (m * 1))) (bs.drop m) := by
  intro hp
  rw [List.length_drop] at hp
  obtain ⟨g, o, e, hg, hcell⟩ := h (by omega)
  subst e
  rw [if_neg (by omega)]
  refine ⟨g, o + m, by simp [addr_add], hg, fun j u hu => ?_⟩
  rw [List.getElem?_drop] at hu
  rw [Nat.add_assoc]
  exact hcell _ _ hu

theorem cut_front (A : Option Addr) (n c m : Nat) (h : m ≤ c) (w : World) : (Instr.sliceAt 22 (.slice A n c) none (some (.int .i64 (m : Int))) none).run Try.prog w = .ok (.slice A m c) w := by
  obtain ⟨i0, hi0, hz0, hz1, hz2⟩ := info_parts info_u8
  rw [run_sliceAt_slice w _ _ _ _ _ (by kernel_rfl), run_slice_h w _ _ _ _ (by kernel_rfl) .i64 (m : Int) (by omega) (by omega)]
  have e : Try.prog.elem 22 = 5 := by kernel_rfl
  have hA : A.map (fun x => x.add 0) = A := by
    cases A with
    | none => rfl
    | some a =>
      obtain ⟨g, o, s⟩ := a
      cases s <;> simp [Addr.add]
  simp [e, sizeOf, typeInfo, hi0, sliced]
  exact fun _ => hA
theorem cut_back (A : Option Addr) (n c m : Nat) (h : m ≤ n) (w : World) : (Instr.sliceAt 22 (.slice A n c) (some (.int .i64 (m : Int))) none none).run Try.prog w = .ok (.slice (if c = m then A else A.map (·.add (m * 1))) (n - m) (c - m)) w := by
  obtain ⟨i0, hi0, hz0, hz1, hz2⟩ := info_parts info_u8
  rw [run_sliceAt_slice w _ _ _ _ _ (by kernel_rfl), run_slice_l w _ _ _ _ (by kernel_rfl) .i64 (m : Int) (by omega) (by omega)]
  have e : Try.prog.elem 22 = 5 := by kernel_rfl
  simp [e, sizeOf, typeInfo, hi0, sliced, hz1]
end Go.Proofs.Ytkmijefheejcjaa

namespace Go.Proofs.Ytkmijefheejcjaa
set_option maxRecDepth 100000
open Go.RowKit

/-- The head of a frame: Dst, Src, Tag, Kind. -/
structure Eh where
  d : Int
  s : Int
  t : Int
  k : Int
deriving DecidableEq

def Eh.zero : Eh := ⟨0, 0, 0, 0⟩
def Eh.head (x : Eh) : Int := if x.t = -1 then 14 else 18
def macOk (n : Int) : Bool := decide (0 ≤ n ∧ n ≤ 281474976710655)
def kindOk (n : Int) : Bool := decide (1536 ≤ n ∧ n ≤ 65535 ∧ n ≠ 33024)
def tagOk (n : Int) : Bool := decide (-1 ≤ n ∧ n ≤ 65535)
/-- Is a frame with this head and n bytes of a body valid? -/
def Eh.ok (x : Eh) (n : Nat) : Bool := macOk x.d && macOk x.s && tagOk x.t && kindOk x.k && decide ((n : Int) ≤ 1600 - x.head)
theorem Eh.ok_iff (x : Eh) (n : Nat) : x.ok n = true ↔ (0 ≤ x.d ∧ x.d ≤ 281474976710655) ∧ (0 ≤ x.s ∧ x.s ≤ 281474976710655) ∧ (-1 ≤ x.t ∧ x.t ≤ 65535) ∧ (1536 ≤ x.k ∧ x.k ≤ 65535 ∧ x.k ≠ 33024) ∧ (n : Int) ≤ 1600 - x.head := by
  simp only [Eh.ok, macOk, tagOk, kindOk, Bool.and_eq_true, decide_eq_true_eq, and_assoc]
/-- The six bytes of an address. -/
def mac (n : Int) : List UInt8 := put16 (n / 4294967296) ++ put32 n
/-- The bytes of a head. -/
def Eh.top (x : Eh) : List UInt8 := mac x.d ++ mac x.s ++ (if x.t = -1 then [] else put16 33024 ++ put16 x.t) ++ put16 x.k
def Eh.bytes (x : Eh) (bs : List UInt8) : List UInt8 := if x.ok bs.length then x.top ++ bs else []
theorem mac_length (n : Int) : (mac n).length = 6 := rfl
theorem Eh.top_length (x : Eh) : (x.top.length : Int) = x.head := by
  unfold Eh.top Eh.head
  split <;> simp [mac, put16, put32]
theorem Eh.bytes_length (x : Eh) (bs : List UInt8) : (x.bytes bs).length ≤ 1600 := by
  unfold Eh.bytes
  split
  · rename_i h
    have h1 := x.top_length
    have h2 := ((x.ok_iff bs.length).1 h).2.2.2.2
    rw [List.length_append]
    omega
  · simp
end Go.Proofs.Ytkmijefheejcjaa
