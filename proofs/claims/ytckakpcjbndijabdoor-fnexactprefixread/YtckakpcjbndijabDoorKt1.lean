/-
  Texts of the proof, joined: Base, App, Bytes, Put, Be, AddrLib, Str, NumText, NumLib, HexText, HexLib, Sum, TextLib, Addr, AddrBytes, Packed, Packed2, AddrImpl, AddrOf, ReadLib, ReadLib2, NumRead, HexRead, ValueSpec, ReadLib3, Shelf2, TextSpec, Hex16.
-/
import Derived.WalkKit
import Derived.Deep.Draws
import Derived.Lib.Hide
import Derived.Test.YtckakpcjbndijabDoorProg
import Derived.Outline
import Derived.Maps.AppendAt
import Derived.Deep.RegionLaw
import Derived.Deep.RegionHeld3
import Derived.Deep.QuietTactic
import Derived.BigQuiet
import Derived.Laws.BitsAllLaws
import Derived.Laws.BitsLemmas
import Derived.Laws.BytesArg
import Derived.StillTailTactics
import Derived.Handy
import Derived.Lib.SmallJoins
import Derived.Laws.CopyOwn
import Derived.Laws.Rows
import Derived.Deep.WholeRow
import Derived.Deep.OwnRows
import Derived.Laws.ResultCell
import Derived.Lib.OthersKept
import Derived.Shelf.Strings.Search1
import Derived.Shelf.Strings.Search2
import Derived.Shelf.Strings.Search3
import Derived.Shelf.Strings.Cut
import Derived.Shelf.Strings.Count
import Derived.Shelf.Strings.Split
import Derived.Lib.QuietBelow
namespace Go.Proofs.YtckakpcjbndijabDoor
open Go.RowKit

/-- The cells of a list of bytes. -/
def cellsOf (bs : List UInt8) : List Value := bs.map fun b => .int .u8 (b.toNat : Int)

/-- The slice that begins at A reads as the bytes bs, and lies below block number B. -/
def RB (w : World) (B : Nat) (A : Option Addr) (bs : List UInt8) : Prop :=
  0 < bs.length → ∃ g o, A = some ⟨g, o, none⟩ ∧ g < B ∧ ∀ j (u : UInt8), bs[j]? = some u → w.cell? ⟨g, o + j, none⟩ = some (.int .u8 (u.toNat : Int))

set_option maxRecDepth 100000 in
theorem cellsOf_length (bs : List UInt8) : (cellsOf bs).length = bs.length := by simp [cellsOf]
set_option maxRecDepth 100000 in
theorem cellsOf_get (bs : List UInt8) (j : Nat) (u : UInt8) (h : bs[j]? = some u) : (cellsOf bs)[j]? = some (.int .u8 (u.toNat : Int)) := by simp [cellsOf, h]
set_option maxRecDepth 100000 in
theorem cellsOf_append (a b : List UInt8) : cellsOf (a ++ b) = cellsOf a ++ cellsOf b := by simp [cellsOf]
set_option maxRecDepth 100000 in
theorem cellsOf_one (bs : List UInt8) : ∀ u ∈ cellsOf bs, u.oneCell' = true := by
  intro u hu
  simp only [cellsOf, List.mem_map] at hu
  obtain ⟨b, _, rfl⟩ := hu
  rfl

section
variable {w w' : World} {B B' : Nat} {A : Option Addr} {bs : List UInt8}

set_option maxRecDepth 100000 in
theorem RB.below (h : RB w B A bs) (hb : Below B w w') : RB w' B A bs := by
  intro hp
  obtain ⟨g, o, e, hg, hc⟩ := h hp
  exact ⟨g, o, e, hg, fun j u hu => (hb.cell (p := ⟨g, o + j, none⟩) hg).trans (hc j u hu)⟩

set_option maxRecDepth 100000 in
theorem RB.more (h : RB w B A bs) (hB : B ≤ B') : RB w B' A bs := by
  intro hp
  obtain ⟨g, o, e, hg, hc⟩ := h hp
  exact ⟨g, o, e, by omega, hc⟩

set_option maxRecDepth 100000 in
theorem RB.at_ (h : RB w B A bs) {k : Nat} (hk : k < bs.length) : ∃ g o, A = some ⟨g, o, none⟩ ∧ g < B ∧ w.cell? ⟨g, o + k, none⟩ = some (.int .u8 (bs[k].toNat : Int)) := by
  obtain ⟨g, o, e, hg, hc⟩ := h (by omega)
  exact ⟨g, o, e, hg, hc k _ (List.getElem?_eq_getElem hk)⟩

set_option maxRecDepth 100000 in
theorem RB.nil_ (w : World) (B : Nat) (A : Option Addr) : RB w B A [] := fun h => absurd h (by simp)

set_option maxRecDepth 100000 in
theorem RB.of_own {base : Nat} {e : TypeId} {n c : Nat} (h : w.ownsRow base e 1 (.slice A n c) n (cellsOf bs)) : RB w w.heap.size A bs := by
  intro hp
  have hl := h.1
  rw [cellsOf_length] at hl
  rcases h.2 with ⟨h1, h2⟩ | ⟨g, cap, cur, hv, _, hg, _⟩
  · omega
  · injection hv with hA hn hc
    subst hA
    subst hc
    refine ⟨g, 0, rfl, (Array.getElem?_eq_some_iff.1 hg).1, fun j u hu => ?_⟩
    have hj : j < bs.length := by
      rcases Nat.lt_or_ge j bs.length with h | h
      · exact h
      · rw [List.getElem?_eq_none h] at hu; cases hu
    have := h.cellAt j (by omega)
    rw [Nat.zero_add, this]
    exact cellsOf_get bs j u hu
end

set_option maxRecDepth 100000 in
/-- What a world owns stays owned in a world that is as it was below all its blocks. -/
theorem own_below {w w' : World} {base : Nat} {e : TypeId} {size n : Nat} {v : Value} {xs : List Value} (h : w.ownsRow base e size v n xs) (hb : Below w.heap.size w w') : w'.ownsRow base e size v n xs := by
  refine ⟨h.1, ?_⟩
  rcases h.2 with hn | ⟨g, cap, cur, rfl, hbase, hg, rest⟩
  · exact .inl hn
  · exact .inr ⟨g, cap, cur, rfl, hbase, (hb.block g (Array.getElem?_eq_some_iff.1 hg).1).trans hg, rest⟩

set_option maxRecDepth 100000 in
theorem own_base {w : World} {base base' : Nat} {e : TypeId} {size n : Nat} {v : Value} {xs : List Value} (h : w.ownsRow base e size v n xs) (hb : base' ≤ base) : w.ownsRow base' e size v n xs := by
  refine ⟨h.1, ?_⟩
  rcases h.2 with hn | ⟨g, cap, cur, rfl, hbase, rest⟩
  · exact .inl hn
  · exact .inr ⟨g, cap, cur, rfl, by omega, rest⟩

set_option maxRecDepth 100000 in
theorem below_drewN {B : Nat} {a w : World} (h : Below B a w) (n : Nat) : Below B a (w.drewN n) := ⟨h.os, h.tape, h.output, h.size, h.block⟩

set_option maxRecDepth 100000 in
theorem ret_int {k : IntKind} {a b : Int} (h : a = b) : Ending.returned (.int k a) = .returned (.int k b) := by rw [h]
set_option maxRecDepth 100000 in
theorem ret_bool {a b : Bool} (h : a = b) : Ending.returned (.bool a) = .returned (.bool b) := by rw [h]

set_option maxRecDepth 100000 in
theorem set_mid (a : List Value) (x v : Value) (t : List Value) (k : Nat) (hk : a.length = k) : (a ++ x :: t).set k v = a ++ v :: t := by
  subst hk
  simp

set_option maxRecDepth 100000 in
/-- A row that is being filled: one cell more. -/
theorem fill_step (pre tail : List UInt8) (x b : UInt8) (k : Nat) (hk : pre.length = k) :
    (cellsOf (pre ++ x :: tail)).set k (.int .u8 (b.toNat : Int)) = cellsOf ((pre ++ [b]) ++ tail) := by
  have h := set_mid (cellsOf pre) (.int .u8 (x.toNat : Int)) (.int .u8 (b.toNat : Int)) (cellsOf tail) k (by rw [cellsOf_length]; exact hk)
  simpa [cellsOf] using h

set_option maxRecDepth 100000 in
theorem take_snoc {T : Type} (l : List T) (k : Nat) (h : k < l.length) : l.take (k + 1) = l.take k ++ [l[k]] := List.take_succ_eq_append_getElem h

set_option maxRecDepth 100000 in
theorem copy_step (bs : List UInt8) (k : Nat) (h : k < bs.length) :
    (cellsOf (bs.take k ++ List.replicate (bs.length - k) 0)).set k (.int .u8 (bs[k].toNat : Int)) = cellsOf (bs.take (k + 1) ++ List.replicate (bs.length - (k + 1)) 0) := by
  rw [show bs.length - k = (bs.length - (k + 1)) + 1 by omega, List.replicate_succ, fill_step _ _ _ _ k (by simp; omega), take_snoc bs k h]

set_option maxRecDepth 100000 in
/-- What is owned is a slice of that length. -/
theorem own_form {w : World} {base : Nat} {e : TypeId} {size n : Nat} {v : Value} {xs : List Value} (h : w.ownsRow base e size v n xs) : ∃ A c, v = .slice A n c := by
  rcases h.2 with ⟨rfl, rfl⟩ | ⟨g, cap, cur, rfl, _⟩
  · exact ⟨_, _, rfl⟩
  · exact ⟨_, _, rfl⟩
set_option maxRecDepth 100000 in
theorem bthen {a b c : World} (h : Below a.heap.size a b) (k : Below b.heap.size b c) : Below a.heap.size a c := h.trans (k.mono h.size)
set_option maxRecDepth 100000 in
theorem bgrown {a b c : World} {row : Option Nat} (h : Below a.heap.size a b) (g : b.grownBy c row) (l : ∀ k, row = some k → a.heap.size ≤ k) : Below a.heap.size a c := h.grown g h.size l

set_option maxRecDepth 100000 in
/-- What is owned from a block on which w' has kept is owned there still, whatever other row has turned. -/
theorem own_grown {w w' : World} {base : Nat} {e : TypeId} {size n : Nat} {v : Value} {xs : List Value} {row : Option Nat} (h : w.ownsRow base e size v n xs) (hg : w.grownBy w' row) (hne : ∀ k, v.ownBlock = some k → row ≠ some k) : w'.ownsRow base e size v n xs := by
  refine h.kept hg ?_
  cases hv : v.ownBlock with
  | none => exact .inl rfl
  | some k => exact .inr (fun e => hne k hv e.symm)

set_option maxRecDepth 100000 in
/-- A row that was there before another one was made is not that one. -/
theorem apart_of {v u : Value} {b B B' : Nat} (l1 : ∀ k, v.ownBlock = some k → b ≤ k ∧ k < B) (l2 : ∀ k, u.ownBlock = some k → B ≤ k ∧ k < B') : ∀ k, v.ownBlock = some k → u.ownBlock ≠ some k := by
  intro k h1 h2
  have := l1 k h1
  have := l2 k h2
  omega
end Go.Proofs.YtckakpcjbndijabDoor
namespace Go.Proofs.YtckakpcjbndijabDoor
open Go.RowKit

set_option maxRecDepth 100000 in
theorem info_u8 : (Tryd.prog.info? 5).map (fun i => (i.zero, i.size, i.bytes)) = some (some (.int .u8 0), 1, 1) := by kernel_rfl

set_option maxRecDepth 100000 in
theorem grownBy_trans {a b c : World} {row : Option Nat} (h : a.grownBy b row) (k : b.grownBy c row) : a.grownBy c row :=
  ⟨k.os.trans h.os, k.tape.trans h.tape, k.output.trans h.output, Nat.le_trans h.size k.size, fun i hi hne => (k.block i (Nat.lt_of_lt_of_le hi h.size) hne).trans (h.block i hi hne)⟩

set_option maxRecDepth 100000 in
theorem addr_add (g o j : Nat) : (⟨g, o, none⟩ : Addr).add j = ⟨g, o + j, none⟩ := by
  unfold Addr.add
  split <;> simp_all

set_option maxRecDepth 100000 in
theorem run_append_b (w : World) (ty base : Nat) (v : Value) (bs : List UInt8) (hown : w.ownsRow base 5 1 v bs.length (cellsOf bs)) (B : Nat) (A : Option Addr) (m c : Nat) (ds : List UInt8) (hm : ds.length = m) (hr : RB w B A ds)
    (hn : bs.length + ds.length ≤ 67108864) (hbase : base ≤ w.heap.size) :
    ∃ v' w', (Builtin.append_ #[42, 42] ty #[v, .slice A m c]).run Tryd.prog w = .ok v' w' ∧ w'.ownsRow base 5 1 v' (bs ++ ds).length (cellsOf (bs ++ ds)) ∧ w.grownBy w' v.ownBlock ∧
      (v'.ownBlock = v.ownBlock ∨ v'.ownBlock = some w.heap.size) := by
  obtain ⟨i0, hi0, hz0, hz1, hz2⟩ := info_parts info_u8
  subst hm
  rw [cellsOf_append, List.length_append]
  have hlen : (cellsOf ds).length = ds.length * 1 := by rw [cellsOf_length, Nat.mul_one]
  rcases A with _ | ad
  · have h0 : ds = [] := by
      rcases ds with _ | ⟨d, ds⟩
      · rfl
      · obtain ⟨g, o, h, _⟩ := hr (by simp)
        cases h
    subst h0
    refine ⟨v, w, ?_, by simpa [cellsOf] using hown, World.grownBy.refl _ _, .inl rfl⟩
    rcases hown.2 with ⟨rfl, h0⟩ | ⟨g, cap, cur, rfl, _, _, hnc, _⟩
    · simp [Builtin.append_, run_underlying Tryd.underlying42, sizeOf, typeInfo, hi0, Builtin.lenOf, Builtin.firstCells]
    · simp [Builtin.append_, run_underlying Tryd.underlying42, sizeOf, typeInfo, hi0, Builtin.lenOf, Builtin.firstCells, hnc, storeCells]
  · obtain ⟨v', w', h1, h2, h3, _, h5⟩ := run_append_own_at (P := Tryd.prog) w base 42 ty 5 i0 (.int .u8 0) 1 1 Tryd.underlying42 hi0 hz0 hz1 hz2 rfl (by omega) v bs.length (cellsOf bs) hown ad ds.length c (cellsOf ds) hlen (by
        intro j u hu
        have hj : j < ds.length := by
          rcases Nat.lt_or_ge j ds.length with h | h
          · exact h
          · rw [List.getElem?_eq_none (by rw [cellsOf_length]; exact h)] at hu; cases hu
        obtain ⟨g, o, h, _, hc⟩ := hr (by omega)
        injection h with h
        subst h
        rw [addr_add, hc j _ (List.getElem?_eq_getElem hj)]
        rw [cellsOf_get ds j _ (List.getElem?_eq_getElem hj)] at hu
        exact hu) (cellsOf_one ds) (by unfold maxLen; omega) (by omega) hbase
    exact ⟨v', w', h1, h2, h3, h5⟩

set_option maxRecDepth 100000 in
/-- 'append' onto a row of bytes of the call's own, from whatever source of bytes. -/
theorem wpList_append_b {w : World} {ops : Array Oper} {rest : List Oper} {o : Oper} {a : Act} {Q : Exit → Act → World → Prop} (hgd : o.guard = none) (s x : Operand)
    (ho : o.op = .call { callee := .builtin .append, args := #[s, x], argTypes := #[42, 42] }) (base : Nat) (v : Value) (bs : List UInt8) (hs : a.eval s = v) (hown : w.ownsRow base 5 1 v bs.length (cellsOf bs))
    (B : Nat) (A : Option Addr) (m c : Nat) (ds : List UInt8) (hx : a.eval x = .slice A m c) (hm : ds.length = m) (hr : RB w B A ds) (hn : bs.length + ds.length ≤ 67108864) (hbase : base ≤ w.heap.size)
    (h : ∀ v' w', w'.ownsRow base 5 1 v' (bs ++ ds).length (cellsOf (bs ++ ds)) → w.grownBy w' v.ownBlock → (v'.ownBlock = v.ownBlock ∨ v'.ownBlock = some w.heap.size) → wpList Tryd.prog ops Q rest (a.put o.dst v') w') :
    wpList Tryd.prog ops Q (o :: rest) a w := by
  refine wpList_plain hgd fun K hK => ?_
  obtain ⟨v', w', hrun, h2, h3, h4⟩ := run_append_b w o.type base v bs hown B A m c ds hm hr hn hbase
  unfold Oper.wp execOp
  simp only [ho, resolve, invoke, builtin, Sem.run_bind, Sem.run_pure, Result.andThen_ok, List.map_toArray, List.map_cons, List.map_nil, hs, hx, hrun]
  exact hK _ _ (h v' w' h2 h3 h4)

set_option maxRecDepth 100000 in
/-- The same, as one step of a region that draws its order. -/
theorem step_append_b {w : World} {ops : Array Oper} {o : Oper} {a : Act} {K : Act → World → Prop} {Q : Exit → Act → World → Prop} {E : Prop} (hgd : o.guard = none) (s x : Operand)
    (ho : o.op = .call { callee := .builtin .append, args := #[s, x], argTypes := #[42, 42] }) (base : Nat) (v : Value) (bs : List UInt8) (hs : a.eval s = v) (hown : w.ownsRow base 5 1 v bs.length (cellsOf bs))
    (B : Nat) (A : Option Addr) (m c : Nat) (ds : List UInt8) (hx : a.eval x = .slice A m c) (hm : ds.length = m) (hr : RB w B A ds) (hn : bs.length + ds.length ≤ 67108864) (hbase : base ≤ w.heap.size)
    (h : ∀ v' w', w'.ownsRow base 5 1 v' (bs ++ ds).length (cellsOf (bs ++ ds)) → w.grownBy w' v.ownBlock → (v'.ownBlock = v.ownBlock ∨ v'.ownBlock = some w.heap.size) → K (a.put o.dst v') w') :
    if Region.wanted o (yielded ops a.tmps) = true then Oper.wp Tryd.prog o a w K Q else E := by
  have hw : Region.wanted o (yielded ops a.tmps) = true := by simp [Region.wanted, hgd]
  rw [if_pos hw]
  obtain ⟨v', w', hrun, h2, h3, h4⟩ := run_append_b w o.type base v bs hown B A m c ds hm hr hn hbase
  unfold Oper.wp execOp
  simp only [ho, resolve, invoke, builtin, Sem.run_bind, Sem.run_pure, Result.andThen_ok, List.map_toArray, List.map_cons, List.map_nil, hs, hx, hrun]
  exact h v' w' h2 h3 h4

set_option maxRecDepth 100000 in
/-- A new row of one or more bytes reads as these. -/
theorem RB.new (w : World) (e : TypeId) (bs : List UInt8) : RB (w.alloc (.cells (cellsOf bs).toArray e)) (w.heap.size + 1) (some ⟨w.heap.size, 0, none⟩) bs := by
  intro hp
  refine ⟨w.heap.size, 0, rfl, by omega, fun j u hu => ?_⟩
  rw [cell_of_row _ w.heap.size (0 + j) _ e (0, 0) (heap_alloc_new w _)]
  simpa using cellsOf_get bs j u hu
end Go.Proofs.YtckakpcjbndijabDoor
namespace Go.Proofs.YtckakpcjbndijabDoor
open Go.RowKit

/-- The byte that the marking lays at place i, counted from k on. -/
def mark (k i : Nat) : UInt8 := UInt8.ofNat (k + i)
def marks (k n : Nat) : List UInt8 := (List.range n).map (mark k)
set_option maxRecDepth 100000 in
theorem marks_length (k n : Nat) : (marks k n).length = n := by simp [marks]
set_option maxRecDepth 100000 in
theorem marks_take (k n i : Nat) (h : i ≤ n) : (marks k n).take i = marks k i := by simp [marks, List.take_range, ← List.map_take, show min i n = i by omega]
set_option maxRecDepth 100000 in
theorem marks_succ (k i : Nat) : marks k (i + 1) = marks k i ++ [mark k i] := by simp [marks, List.range_succ]
set_option maxRecDepth 100000 in
theorem mark_val (k i : Nat) : ((mark k i).toNat : Int) = ((k : Int) + i) % 256 := by simp [mark]

set_option maxRecDepth 100000 in
theorem mark_step (k j : Nat) (bs : List UInt8) (h : j < bs.length) :
    (cellsOf (marks k j ++ bs.drop j)).set j (.int .u8 (((k : Int) + j) % 256)) = cellsOf (marks k (j + 1) ++ bs.drop (j + 1)) := by
  rw [List.drop_eq_getElem_cons h, ← mark_val, fill_step _ _ _ _ j (marks_length k j), marks_succ]


end Go.Proofs.YtckakpcjbndijabDoor
namespace Go.Proofs.YtckakpcjbndijabDoor
open Go.RowKit

def byteOf (n : Int) : UInt8 := UInt8.ofNat (n % 256).toNat
set_option maxRecDepth 100000 in
theorem byteOf_val (n : Int) : ((byteOf n).toNat : Int) = n % 256 := by
  unfold byteOf
  have : (n % 256).toNat < 256 := by omega
  simp [UInt8.toNat_ofNat_of_lt' (show (n % 256).toNat < UInt8.size by simpa using this)]
  omega
def put16 (n : Int) : List UInt8 := [byteOf (n / 256), byteOf n]
def put32 (n : Int) : List UInt8 := [byteOf (n / 16777216), byteOf (n / 65536), byteOf (n / 256), byteOf n]

set_option maxRecDepth 100000 in
set_option maxHeartbeats 400000 in
theorem implPut16 (n : Int) (w : World) :
    Calls Tryd.prog 69 #[.int .i64 n] w fun e w' => e = .returned (.slice (some ⟨w.heap.size, 0, none⟩) 2 2) ∧
      w'.ownsRow w.heap.size 5 1 (.slice (some ⟨w.heap.size, 0, none⟩) 2 2) 2 (cellsOf (put16 n)) ∧ Below w.heap.size w w' := by
  go_enter Tryd.func69, Tryd.ntmps69
  go_wp2
  go_ret
  have e : cellsOf (put16 n) = [.int .u8 (n / 256 % 256), .int .u8 (n % 256)] := by simp [cellsOf, put16, byteOf_val]
  rw [e]
  exact ⟨rfl, World.ownsRow_lit w _ 2 (Nat.le_refl _) (by decide) rfl, (Below.refl _ _).alloc (Nat.le_refl _) _⟩

set_option maxRecDepth 100000 in
set_option maxHeartbeats 400000 in
theorem implPut32 (n : Int) (w : World) :
    Calls Tryd.prog 79 #[.int .i64 n] w fun e w' => e = .returned (.slice (some ⟨w.heap.size, 0, none⟩) 4 4) ∧
      w'.ownsRow w.heap.size 5 1 (.slice (some ⟨w.heap.size, 0, none⟩) 4 4) 4 (cellsOf (put32 n)) ∧ Below w.heap.size w w' := by
  go_enter Tryd.func79, Tryd.ntmps79
  go_wp2
  go_ret
  have e : cellsOf (put32 n) = [.int .u8 (n / 16777216 % 256), .int .u8 (n / 65536 % 256), .int .u8 (n / 256 % 256), .int .u8 (n % 256)] := by simp [cellsOf, put32, byteOf_val]
  rw [e]
  exact ⟨rfl, World.ownsRow_lit w _ 4 (Nat.le_refl _) (by decide) rfl, (Below.refl _ _).alloc (Nat.le_refl _) _⟩

set_option maxRecDepth 100000 in
theorem tmod_fix (n m : Int) (hm : 0 < m) : -m < n.tmod m ∧ n.tmod m < m ∧ (0 ≤ n.tmod m → n.tmod m = n % m) ∧ (n.tmod m < 0 → n.tmod m + m = n % m) := by
  have h0 := Int.emod_nonneg n (show m ≠ 0 by omega)
  have h1 := Int.emod_lt_of_pos n hm
  have h2 := Int.tmod_eq_emod (a := n) (b := m)
  have h3 : (m.natAbs : Int) = m := by omega
  have h4 : ¬ m ∣ n → n % m ≠ 0 := fun h e => h (Int.dvd_of_emod_eq_zero e)
  by_cases hd : 0 ≤ n ∨ m ∣ n
  · rw [if_pos hd] at h2; omega
  · rw [if_neg hd, h3] at h2
    have h5 := h4 (fun h => hd (.inr h))
    omega

set_option maxRecDepth 100000 in
set_option maxHeartbeats 400000 in
theorem low16 (n : Int) (w : World) :
    Calls Tryd.prog 64 #[.int .i64 n, .int .i64 65536] w fun e w' => e = .returned (.int .i64 (n % 65536)) ∧ w = w' := by
  obtain ⟨b1, b2, b3, b4⟩ := tmod_fix n 65536 (by omega)
  have H3 := Lib.hid b3
  have H4 := Lib.hid b4
  clear b3 b4
  go_enter Tryd.func64, Tryd.ntmps64
  go_wp2
  · go_ret
    exact ⟨ret_int (H4.out (by assumption)), rfl⟩
  · go_ret
    exact ⟨ret_int (H3.out (by assumption)), rfl⟩

set_option maxRecDepth 100000 in
set_option maxHeartbeats 400000 in
theorem low32 (n : Int) (w : World) :
    Calls Tryd.prog 64 #[.int .i64 n, .int .i64 4294967296] w fun e w' => e = .returned (.int .i64 (n % 4294967296)) ∧ w = w' := by
  obtain ⟨b1, b2, b3, b4⟩ := tmod_fix n 4294967296 (by omega)
  have H3 := Lib.hid b3
  have H4 := Lib.hid b4
  clear b3 b4
  go_enter Tryd.func64, Tryd.ntmps64
  go_wp2
  · go_ret
    exact ⟨ret_int (H4.out (by assumption)), rfl⟩
  · go_ret
    exact ⟨ret_int (H3.out (by assumption)), rfl⟩

set_option maxRecDepth 100000 in
set_option maxHeartbeats 400000 in
theorem specPut16 (n : Int) (w : World) :
    Calls Tryd.prog 37 #[.int .i64 n] w fun e w' => e = .returned (.slice (some ⟨w.heap.size, 0, none⟩) 2 2) ∧
      w'.ownsRow w.heap.size 5 1 (.slice (some ⟨w.heap.size, 0, none⟩) 2 2) 2 (cellsOf (put16 n)) ∧ Below w.heap.size w w' := by
  have h0 := Int.emod_nonneg n (show (65536 : Int) ≠ 0 by omega)
  have h1 := Int.emod_lt_of_pos n (show (0 : Int) < 65536 by omega)
  go_enter Tryd.func37, Tryd.ntmps37
  go_wp2_with (go_at_call 64; refine (low16 _ _).mono ?_; rintro e w' ⟨rfl, rfl⟩)
  go_ret
  have e : cellsOf (put16 n) = [.int .u8 (n % 65536 / 256), .int .u8 (n % 256)] := by
    simp [cellsOf, put16, byteOf_val]
    omega
  rw [e]
  exact ⟨rfl, World.ownsRow_lit w _ 2 (Nat.le_refl _) (by decide) rfl, (Below.refl _ _).alloc (Nat.le_refl _) _⟩

set_option maxRecDepth 100000 in
set_option maxHeartbeats 400000 in
theorem specPut32 (n : Int) (w : World) :
    Calls Tryd.prog 57 #[.int .i64 n] w fun e w' => ∃ A c, e = .returned (.slice A 4 c) ∧
      w'.ownsRow w.heap.size 5 1 (.slice A 4 c) 4 (cellsOf (put32 n)) ∧ Below w.heap.size w w' := by
  have h0 := Int.emod_nonneg n (show (4294967296 : Int) ≠ 0 by omega)
  have h1 := Int.emod_lt_of_pos n (show (0 : Int) < 4294967296 by omega)
  obtain ⟨i0, hi0, hz0, hz1, hz2⟩ := info_parts info_u8
  go_enter Tryd.func57, Tryd.ntmps57
  go_wp2_with (go_at_call 64; refine (low32 _ _).mono ?_; rintro e w' ⟨rfl, rfl⟩)
  refine (specPut16 _ _).mono ?_
  rintro e w1 ⟨rfl, hown1, hb1⟩
  go_wp2_with fail
  refine (specPut16 _ _).mono ?_
  rintro e w2 ⟨rfl, hown2, hb2⟩
  go_wp2_with (at_builtin; (refine wpList_append_b rfl (.tmp 8) (.tmp 11) rfl w.heap.size (.slice (some ⟨w.heap.size, 0, none⟩) 2 2) (put16 (n % 4294967296 / 65536)) rfl (own_below hown1 hb2) w2.heap.size (some ⟨w1.heap.size, 0, none⟩) 2 2 (put16 (n % 65536)) rfl rfl (RB.of_own hown2) (by simp [put16]) (Nat.le_trans hb1.size hb2.size) ?_); intro v3 w3 hown3 hg3 _)
  go_ret
  obtain ⟨A, c, rfl⟩ := own_form hown3
  have e : put16 (n % 4294967296 / 65536) ++ put16 (n % 65536) = put32 n := by
    simp only [put16, put32, List.cons_append, List.nil_append, byteOf]
    rw [show n % 4294967296 / 65536 / 256 % 256 = n / 16777216 % 256 by omega, show n % 4294967296 / 65536 % 256 = n / 65536 % 256 by omega, show n % 65536 / 256 % 256 = n / 256 % 256 by omega, show n % 65536 % 256 = n % 256 by omega]
  rw [e] at hown3
  exact ⟨A, c, rfl, hown3, (hb1.trans (hb2.mono hb1.size)).grown hg3 (Nat.le_trans hb1.size hb2.size) (by simp [Value.ownBlock])⟩
end Go.Proofs.YtckakpcjbndijabDoor
namespace Go.Proofs.YtckakpcjbndijabDoor
open Go.RowKit

def be (l : List UInt8) : Nat := l.foldl (fun n b => 256 * n + b.toNat) 0
set_option maxRecDepth 100000 in
theorem be_snoc (l : List UInt8) (b : UInt8) : be (l ++ [b]) = 256 * be l + b.toNat := by simp [be]
set_option maxRecDepth 100000 in
theorem be_from (l : List UInt8) : ∀ a : Nat, l.foldl (fun n b => 256 * n + b.toNat) a < (a + 1) * 256 ^ l.length := by
  induction l with
  | nil => intro a; simp
  | cons b l ih =>
    intro a
    have hb : b.toNat < 256 := UInt8.toNat_lt b
    have h := ih (256 * a + b.toNat)
    have h2 : (256 * a + b.toNat + 1) * 256 ^ l.length ≤ (256 * (a + 1)) * 256 ^ l.length := Nat.mul_le_mul_right _ (by omega)
    simp only [List.foldl_cons, List.length_cons, Nat.pow_succ]
    have h3 : (a + 1) * (256 ^ l.length * 256) = (256 * (a + 1)) * 256 ^ l.length := by rw [Nat.mul_comm (256 ^ l.length) 256, ← Nat.mul_assoc, Nat.mul_comm (a + 1) 256]
    omega
set_option maxRecDepth 100000 in
theorem be_lt (l : List UInt8) : be l < 256 ^ l.length := by
  have := be_from l 0
  simpa [be] using this
set_option maxRecDepth 100000 in
theorem be_lt3 (l : List UInt8) (j : Nat) (h : j ≤ 3) : be (l.take j) < 16777216 := by
  have h1 := be_lt (l.take j)
  have h2 : 256 ^ (l.take j).length ≤ 256 ^ 3 := Nat.pow_le_pow_right (by omega) (Nat.le_trans (List.length_take_le _ _) h)
  omega

set_option maxRecDepth 100000 in
theorem ofInt_i64 (a : Nat) (ha : a < 9223372036854775808) : (BitVec.ofInt 64 (a : Int)).toNat = a := by
  rw [BitVec.ofInt_natCast, BitVec.toNat_ofNat]
  exact Nat.mod_eq_of_lt (by omega)

set_option maxRecDepth 100000 in
/-- 'n<<8 | b' of a small n and a byte. -/
theorem or_byte (m b : Nat) (hm : m < 4294967296) (hb : b < 256) : bits .or .i64 ((m : Int) * 256) (b : Int) = (m : Int) * 256 + b := by
  have e : ((m : Int) * 256) = ((256 * m : Nat) : Int) := by omega
  have ho : 256 * m ||| b = 256 * m + b := (Nat.two_pow_add_eq_or_of_lt (i := 8) (by simpa using hb) m).symm
  rw [e]
  show IntKind.i64.wrap ((BitVec.ofInt 64 ((256 * m : Nat) : Int) ||| BitVec.ofInt 64 (b : Int)).toNat : Int) = _
  rw [BitVec.toNat_or, ofInt_i64 _ (by omega), ofInt_i64 b (by omega), ho, IntKind.wrap_i64]
  omega

set_option maxRecDepth 100000 in
set_option maxHeartbeats 400000 in
theorem within_yes (n lo hi : Int) (w : World) (h1 : lo ≤ n) (h2 : n ≤ hi) :
    Calls Tryd.prog 70 #[.int .i64 n, .int .i64 lo, .int .i64 hi] w fun e w' => e = .returned (.bool true) ∧ w = w' := by
  have h3 : ¬ n < lo := by omega
  have h4 : ¬ hi < n := by omega
  go_enter Tryd.func70, Tryd.ntmps70
  go_wp2
  go_ret
  exact ⟨rfl, rfl⟩

set_option maxRecDepth 100000 in
set_option maxHeartbeats 400000 in
theorem within_no (n lo hi : Int) (w : World) (h : n < lo ∨ hi < n) :
    Calls Tryd.prog 70 #[.int .i64 n, .int .i64 lo, .int .i64 hi] w fun e w' => e = .returned (.bool false) ∧ w = w' := by
  by_cases h1 : n < lo
  · have h2 : (lo == n) = false := by simp; omega
    go_enter Tryd.func70, Tryd.ntmps70
    go_wp2
    go_ret
    exact ⟨rfl, rfl⟩
  · have h3 : hi < n := by omega
    have h2 : (hi == n) = false := by simp; omega
    go_enter Tryd.func70, Tryd.ntmps70
    go_wp2
    go_ret
    exact ⟨rfl, rfl⟩

set_option maxRecDepth 100000 in
set_option maxHeartbeats 400000 in
theorem implBig_no (A : Option Addr) (c : Nat) (bs : List UInt8) (k : Int) (s : Nat) (w : World) (hn : bs.length ≤ 1048576) (hs : s ≤ 4) (h : k < 0 ∨ (bs.length : Int) - s < k) :
    Calls Tryd.prog 95 #[.slice A bs.length c, .int .i64 k, .int .i64 s] w fun e w' => e = .returned (.tuple #[.int .i64 0, .bool false]) ∧ w = w' := by
  have H := Lib.hid h
  clear h
  go_enter Tryd.func95, Tryd.ntmps95
  go_wp2_with (go_at_call 70; refine (within_no _ _ _ _ H.out).mono ?_; rintro e w' ⟨rfl, rfl⟩)
  go_ret2
  exact ⟨rfl, rfl⟩

set_option maxRecDepth 100000 in
set_option maxHeartbeats 400000 in
theorem implBig (A : Option Addr) (c : Nat) (bs : List UInt8) (k : Nat) (s : Nat) (w : World) (hr : RB w w.heap.size A bs) (hn : bs.length ≤ 1048576) (hc : bs.length ≤ c) (hs0 : 0 < s) (hs : s ≤ 4) (h : k + s ≤ bs.length) :
    Calls Tryd.prog 95 #[.slice A bs.length c, .int .i64 (k : Int), .int .i64 s] w fun e w' => e = .returned (.tuple #[.int .i64 (be ((bs.drop k).take s)), .bool true]) ∧ w = w' := by
  obtain ⟨g, o, rfl, hg, hcell⟩ := hr (by omega)
  have hne : ¬ c = k := by omega
  go_enter Tryd.func95, Tryd.ntmps95
  go_wp2_with (go_at_call 70; refine (within_yes _ _ _ _ (by omega) (by omega)).mono ?_; rintro e w' ⟨rfl, rfl⟩)
  go_loop [8, 25] (fun n i => ∃ j : Nat, j ≤ s ∧ i = .int .i64 j ∧ n = .int .i64 (be ((bs.drop k).take j))) (fun _ i => s - (intOf i).toNat)
  case atStart => exact ⟨0, Nat.zero_le _, rfl, rfl⟩
  case round =>
    obtain ⟨j, hj, rfl, rfl⟩ := hrel
    by_cases hlt : j < s
    · have hc0 : w.cell? ⟨g, o + k + j, none⟩ = some (.int .u8 (bs[k + j].toNat : Int)) := by
        rw [Nat.add_assoc]
        exact hcell (k + j) _ (List.getElem?_eq_getElem (by omega))
      have hb : (bs[k + j].toNat) < 256 := UInt8.toNat_lt _
      have hm := be_lt3 (bs.drop k) j (by omega)
      have hor := or_byte (be ((bs.drop k).take j)) bs[k + j].toNat (by omega) hb
      have hst := Lib.hid (show be ((bs.drop k).take (j + 1)) = 256 * be ((bs.drop k).take j) + bs[k + j].toNat by
        rw [take_snoc _ j (by simp; omega), be_snoc]
        simp)
      clear hcell
      go_wp2
      go_round
      case rel => exact ⟨j + 1, by omega, by go_num, by rw [hst.out]; go_num⟩
      case measure => simp [intOf]; omega
    · obtain rfl : j = s := by omega
      go_wp2
      go_ret2
      exact ⟨rfl, rfl⟩

set_option maxRecDepth 100000 in
set_option maxHeartbeats 400000 in
theorem implBe32 (A : Option Addr) (n c : Nat) (bs : List UInt8) (k : Nat) (w : World) (hr : RB w w.heap.size A bs) (hl : bs.length = n) (hn : n ≤ 1048576) (hc : n ≤ c) (h : k + 4 ≤ n) :
    Calls Tryd.prog 80 #[.slice A n c, .int .i64 (k : Int)] w fun e w' => e = .returned (.tuple #[.int .i64 (be ((bs.drop k).take 4)), .bool true]) ∧ w = w' := by
  subst hl
  go_enter Tryd.func80, Tryd.ntmps80
  go_wp2_with (go_at_call 95; refine (implBig A c bs k 4 w hr hn hc (by omega) (by omega) h).mono ?_; rintro e w' ⟨rfl, rfl⟩)
  go_ret2
  exact ⟨rfl, rfl⟩

set_option maxRecDepth 100000 in
set_option maxHeartbeats 400000 in
theorem implBe32_no (A : Option Addr) (n c : Nat) (bs : List UInt8) (k : Int) (w : World) (hl : bs.length = n) (hn : n ≤ 1048576) (h : k < 0 ∨ (n : Int) - 4 < k) :
    Calls Tryd.prog 80 #[.slice A n c, .int .i64 k] w fun e w' => e = .returned (.tuple #[.int .i64 0, .bool false]) ∧ w = w' := by
  subst hl
  have H := Lib.hid (implBig_no A c bs k 4 w hn (by omega) h)
  clear h
  go_enter Tryd.func80, Tryd.ntmps80
  go_wp2_with (go_at_call 95; refine H.out.mono ?_; rintro e w' ⟨rfl, rfl⟩)
  go_ret2
  exact ⟨rfl, rfl⟩

set_option maxRecDepth 100000 in
set_option maxHeartbeats 400000 in
theorem specBe32_no (A : Option Addr) (n c : Nat) (k : Int) (w : World) (hn : n ≤ 1048576) (h : k < 0 ∨ (n : Int) - 4 < k) :
    Calls Tryd.prog 65 #[.slice A n c, .int .i64 k] w fun e w' => e = .returned (.tuple #[.int .i64 0, .bool false]) ∧ w = w' := by
  by_cases h0 : k < 0
  · clear h
    go_enter Tryd.func65, Tryd.ntmps65
    go_wp2
    go_ret2
    exact ⟨rfl, rfl⟩
  · have h1 : (n : Int) - 4 < k := by omega
    clear h
    go_enter Tryd.func65, Tryd.ntmps65
    go_wp2
    go_ret2
    exact ⟨rfl, rfl⟩

set_option maxRecDepth 100000 in
theorem two_bytes (a b : UInt8) : wrap64 (wrap64 (256 * wrap64 (a.toNat : Int)) + wrap64 (b.toNat : Int)) = ((256 * a.toNat + b.toNat : Nat) : Int) := by
  have ha : a.toNat < 256 := UInt8.toNat_lt a
  have hb : b.toNat < 256 := UInt8.toNat_lt b
  rw [IntWalk.wrap64_in (a.toNat : Int) (by omega), IntWalk.wrap64_in (b.toNat : Int) (by omega), IntWalk.wrap64_in (256 * (a.toNat : Int)) (by omega), IntWalk.wrap64_in _ (by omega)]
  omega

set_option maxRecDepth 100000 in
set_option maxHeartbeats 400000 in
theorem specBe32 (A : Option Addr) (n c : Nat) (bs : List UInt8) (k : Nat) (w : World) (hr : RB w w.heap.size A bs) (hl : bs.length = n) (hn : n ≤ 1048576) (h : k + 4 ≤ n) :
    Calls Tryd.prog 65 #[.slice A n c, .int .i64 (k : Int)] w fun e w' => e = .returned (.tuple #[.int .i64 (be ((bs.drop k).take 4)), .bool true]) ∧ Below w.heap.size w w' := by
  subst hl
  obtain ⟨g, o, rfl, hg, hcell⟩ := hr (by omega)
  go_enter Tryd.func65, Tryd.ntmps65
  go_wp2
  go_loop [6, 7] (fun n i => ∃ j : Nat, j ≤ 4 ∧ i = .int .i64 j ∧ n = .int .i64 (be ((bs.drop k).take j))) (fun _ i => 4 - (intOf i).toNat)
  case atStart => exact ⟨0, Nat.zero_le _, rfl, rfl⟩
  case round =>
    obtain ⟨j, hj, rfl, rfl⟩ := hrel
    by_cases hlt : j < 4
    · have hc0 : w.cell? ⟨g, o + (k + j), none⟩ = some (.int .u8 (bs[k + j].toNat : Int)) := hcell (k + j) _ (List.getElem?_eq_getElem (by omega))
      have hb : (bs[k + j].toNat) < 256 := UInt8.toNat_lt _
      have hm := be_lt3 (bs.drop k) j (by omega)
      have hst := Lib.hid (show be ((bs.drop k).take (j + 1)) = 256 * be ((bs.drop k).take j) + bs[k + j].toNat by
        rw [take_snoc _ j (by simp; omega), be_snoc]
        simp)
      clear hcell
      go_wp2
      go_round
      case rel => exact ⟨j + 1, by omega, by go_num, by rw [hst.out]; go_num⟩
      case measure => simp [intOf]; omega
    · obtain rfl : j = 4 := by omega
      go_wp2
      go_ret2
      exact ⟨rfl, Below.refl _ _⟩
end Go.Proofs.YtckakpcjbndijabDoor
namespace Go.Proofs.YtckakpcjbndijabDoor
open Go.RowKit

/-- An address: Kind, A, B, C, D. -/
structure Ad where
  k : Int
  a : Int
  b : Int
  c : Int
  d : Int
deriving DecidableEq

def Ad.val (x : Ad) : Value := .agg #[.int .i64 x.k, .int .i64 x.a, .int .i64 x.b, .int .i64 x.c, .int .i64 x.d]
def Ad.zero : Ad := ⟨0, 0, 0, 0, 0⟩
def half (n : Int) : Bool := decide (0 ≤ n ∧ n ≤ 4294967295)
def Ad.ok (x : Ad) : Bool := (x.k == 4 && x.a == 0 && x.b == 0 && x.c == 0 && half x.d) || (x.k == 6 && half x.a && half x.b && half x.c && half x.d)
def Ad.bits (x : Ad) : Int := if x.k = 4 then 32 else 128

set_option maxRecDepth 100000 in
theorem half_iff (n : Int) : half n = true ↔ 0 ≤ n ∧ n ≤ 4294967295 := by simp [half]
set_option maxRecDepth 100000 in
theorem Ad.ok_iff (x : Ad) : x.ok = true ↔ (x.k = 4 ∧ x.a = 0 ∧ x.b = 0 ∧ x.c = 0 ∧ 0 ≤ x.d ∧ x.d ≤ 4294967295) ∨
    (x.k = 6 ∧ (0 ≤ x.a ∧ x.a ≤ 4294967295) ∧ (0 ≤ x.b ∧ x.b ≤ 4294967295) ∧ (0 ≤ x.c ∧ x.c ≤ 4294967295) ∧ 0 ≤ x.d ∧ x.d ≤ 4294967295) := by
  simp [Ad.ok, half, and_assoc]
set_option maxRecDepth 100000 in
theorem Ad.ok_kind {x : Ad} (h : x.ok = true) : x.k = 4 ∨ x.k = 6 := by
  rw [Ad.ok_iff] at h
  omega

/-- The sixteen bytes of A, B, C, D. -/
def Ad.whole (x : Ad) : List UInt8 := put32 x.a ++ put32 x.b ++ put32 x.c ++ put32 x.d
set_option maxRecDepth 100000 in
theorem Ad.whole_length (x : Ad) : x.whole.length = 16 := by simp [Ad.whole, put32]
/-- The bytes of an address: four or sixteen. -/
def Ad.bytes (x : Ad) : List UInt8 := if x.ok then (if x.k = 4 then put32 x.d else x.whole) else []
/-- The address of sixteen bytes. -/
def unw (k : Int) (bs : List UInt8) : Ad := ⟨k, be (bs.take 4), be ((bs.drop 4).take 4), be ((bs.drop 8).take 4), be ((bs.drop 12).take 4)⟩

set_option maxRecDepth 100000 in
theorem be_put32 (n : Int) (h : 0 ≤ n ∧ n ≤ 4294967295) : (be (put32 n) : Int) = n := by
  have e : be (put32 n) = 256 * (256 * (256 * (byteOf (n / 16777216)).toNat + (byteOf (n / 65536)).toNat) + (byteOf (n / 256)).toNat) + (byteOf n).toNat := by simp [be, put32]
  have h1 := byteOf_val (n / 16777216)
  have h2 := byteOf_val (n / 65536)
  have h3 := byteOf_val (n / 256)
  have h4 := byteOf_val n
  rw [e]
  omega
set_option maxRecDepth 100000 in
theorem byteOf_eq (n : Int) (b : UInt8) (h : n % 256 = b.toNat) : byteOf n = b := by
  apply UInt8.toNat_inj.1
  have := byteOf_val n
  omega
set_option maxRecDepth 100000 in
theorem put32_be (p q r s : UInt8) : put32 (be [p, q, r, s]) = [p, q, r, s] := by
  have e : (be [p, q, r, s] : Int) = 256 * (256 * (256 * (p.toNat : Int) + q.toNat) + r.toNat) + s.toNat := by simp [be]
  have hp := UInt8.toNat_lt p
  have hq := UInt8.toNat_lt q
  have hr := UInt8.toNat_lt r
  have hs := UInt8.toNat_lt s
  unfold put32
  rw [byteOf_eq _ p (by omega), byteOf_eq _ q (by omega), byteOf_eq _ r (by omega), byteOf_eq _ s (by omega)]

set_option maxRecDepth 100000 in
theorem len4 {l : List UInt8} (h : l.length = 4) : ∃ p q r s, l = [p, q, r, s] := by
  match l, h with
  | [p, q, r, s], _ => exact ⟨p, q, r, s, rfl⟩
set_option maxRecDepth 100000 in
theorem put32_be4 (l : List UInt8) (h : l.length = 4) : put32 (be l) = l := by
  obtain ⟨p, q, r, s, rfl⟩ := len4 h
  exact put32_be p q r s
set_option maxRecDepth 100000 in
theorem put32_length (n : Int) : (put32 n).length = 4 := rfl

set_option maxRecDepth 100000 in
theorem unw_whole (x : Ad) (k : Int) (ha : 0 ≤ x.a ∧ x.a ≤ 4294967295) (hb : 0 ≤ x.b ∧ x.b ≤ 4294967295) (hc : 0 ≤ x.c ∧ x.c ≤ 4294967295) (hd : 0 ≤ x.d ∧ x.d ≤ 4294967295) :
    unw k x.whole = ⟨k, x.a, x.b, x.c, x.d⟩ := by
  have e1 : x.whole.take 4 = put32 x.a := by simp [Ad.whole, put32]
  have e2 : (x.whole.drop 4).take 4 = put32 x.b := by simp [Ad.whole, put32]
  have e3 : (x.whole.drop 8).take 4 = put32 x.c := by simp [Ad.whole, put32]
  have e4 : (x.whole.drop 12).take 4 = put32 x.d := by simp [Ad.whole, put32]
  rw [unw, e1, e2, e3, e4, be_put32 _ ha, be_put32 _ hb, be_put32 _ hc, be_put32 _ hd]
set_option maxRecDepth 100000 in
theorem Ad.halves {x : Ad} (h : x.ok = true) : (0 ≤ x.a ∧ x.a ≤ 4294967295) ∧ (0 ≤ x.b ∧ x.b ≤ 4294967295) ∧ (0 ≤ x.c ∧ x.c ≤ 4294967295) ∧ 0 ≤ x.d ∧ x.d ≤ 4294967295 := by
  rw [Ad.ok_iff] at h
  omega
set_option maxRecDepth 100000 in
theorem unw_of_ok (x : Ad) (h : x.ok = true) : unw x.k x.whole = x := by
  obtain ⟨h1, h2, h3, h4⟩ := x.halves h
  rw [unw_whole x x.k h1 h2 h3 h4]
set_option maxRecDepth 100000 in
theorem whole_unw (k : Int) (bs : List UInt8) (h : bs.length = 16) : (unw k bs).whole = bs := by
  have h1 := put32_be4 (bs.take 4) (by simp; omega)
  have h2 := put32_be4 ((bs.drop 4).take 4) (by simp; omega)
  have h3 := put32_be4 ((bs.drop 8).take 4) (by simp; omega)
  have h4 := put32_be4 ((bs.drop 12).take 4) (by simp; omega)
  simp only [unw, Ad.whole]
  rw [h1, h2, h3, h4]
  have e1 : bs = bs.take 4 ++ bs.drop 4 := (List.take_append_drop 4 bs).symm
  have e2 : bs.drop 4 = (bs.drop 4).take 4 ++ bs.drop 8 := by
    have := (List.take_append_drop 4 (bs.drop 4)).symm
    simpa [List.drop_drop] using this
  have e3 : bs.drop 8 = (bs.drop 8).take 4 ++ bs.drop 12 := by
    have := (List.take_append_drop 4 (bs.drop 8)).symm
    simpa [List.drop_drop] using this
  have e4 : (bs.drop 12).take 4 = bs.drop 12 := List.take_of_length_le (by simp; omega)
  conv => rhs; rw [e1, e2, e3]
  rw [e4, List.append_assoc, List.append_assoc]
set_option maxRecDepth 100000 in
theorem whole_inj (x y : Ad) (hx : x.ok = true) (hy : y.ok = true) (hk : x.k = y.k) (h : x.whole = y.whole) : x = y := by
  rw [← unw_of_ok x hx, ← unw_of_ok y hy, h, hk]

/-- A byte with its first k bits kept. -/
def cutByte (b : UInt8) (k : Nat) : UInt8 := UInt8.ofNat (b.toNat - b.toNat % 2 ^ (8 - k))
set_option maxRecDepth 100000 in
theorem cutByte_val (b : UInt8) (k : Nat) : (cutByte b k).toNat = b.toNat - b.toNat % 2 ^ (8 - k) := by
  have := UInt8.toNat_lt b
  unfold cutByte
  rw [UInt8.toNat_ofNat_of_lt' (show b.toNat - b.toNat % 2 ^ (8 - k) < UInt8.size by simp [UInt8.size]; omega)]
set_option maxRecDepth 100000 in
theorem cutByte_zero (k : Nat) : cutByte 0 k = 0 := by
  apply UInt8.toNat_inj.1
  rw [cutByte_val]
  simp
set_option maxRecDepth 100000 in
theorem nine {k : Nat} (h : k ≤ 8) : k = 0 ∨ k = 1 ∨ k = 2 ∨ k = 3 ∨ k = 4 ∨ k = 5 ∨ k = 6 ∨ k = 7 ∨ k = 8 := by omega
set_option maxRecDepth 100000 in
theorem cutByte_cut (b : UInt8) (k j : Nat) (hk : k ≤ 8) (hj : j ≤ k) : cutByte (cutByte b k) j = cutByte b j := by
  apply UInt8.toNat_inj.1
  rw [cutByte_val, cutByte_val, cutByte_val]
  have hb := UInt8.toNat_lt b
  have hj' : j ≤ 8 := by omega
  rcases nine hk with rfl | rfl | rfl | rfl | rfl | rfl | rfl | rfl | rfl <;> rcases nine hj' with rfl | rfl | rfl | rfl | rfl | rfl | rfl | rfl | rfl <;> first | (exfalso; omega) | (simp; omega) | simp

/-- Bytes with their first n bits kept. -/
def cutB (n : Nat) (bs : List UInt8) : List UInt8 := bs.mapIdx fun i b => cutByte b (min 8 (n - 8 * i))
set_option maxRecDepth 100000 in
theorem cutB_length (n : Nat) (bs : List UInt8) : (cutB n bs).length = bs.length := by simp [cutB]
set_option maxRecDepth 100000 in
theorem cutB_get (n : Nat) (bs : List UInt8) (i : Nat) (h : i < bs.length) : (cutB n bs)[i]'(by rw [cutB_length]; exact h) = cutByte bs[i] (min 8 (n - 8 * i)) := by simp [cutB]
set_option maxRecDepth 100000 in
theorem cutB_cut (n m : Nat) (h : m ≤ n) (bs : List UInt8) : cutB m (cutB n bs) = cutB m bs := by
  apply List.ext_getElem (by simp [cutB_length])
  intro i h1 h2
  rw [cutB_get _ _ _ (by simpa [cutB_length] using h1), cutB_get _ _ _ (by simpa [cutB_length] using h1), cutB_get _ _ _ (by simpa [cutB_length] using h1)]
  exact cutByte_cut _ _ _ (by omega) (by omega)

/-- A byte whose bits lo to hi - 1 are cleared. -/
def midByte (b : UInt8) (lo hi : Nat) : UInt8 := UInt8.ofNat (b.toNat - b.toNat % 2 ^ (8 - lo) + b.toNat % 2 ^ (8 - hi))
set_option maxRecDepth 100000 in
theorem midByte_val (b : UInt8) (lo hi : Nat) (h : lo ≤ hi) : (midByte b lo hi).toNat = b.toNat - b.toNat % 2 ^ (8 - lo) + b.toNat % 2 ^ (8 - hi) := by
  have hb := UInt8.toNat_lt b
  have hle : b.toNat % 2 ^ (8 - hi) ≤ b.toNat % 2 ^ (8 - lo) := by
    have hd : 2 ^ (8 - hi) ∣ 2 ^ (8 - lo) := Nat.pow_dvd_pow 2 (by omega)
    rw [← Nat.mod_mod_of_dvd b.toNat hd]
    exact Nat.mod_le _ _
  have hm := Nat.mod_le b.toNat (2 ^ (8 - lo))
  unfold midByte
  rw [UInt8.toNat_ofNat_of_lt' (show _ < UInt8.size by simp [UInt8.size]; omega)]
set_option maxRecDepth 100000 in
theorem midByte_same (b : UInt8) (lo : Nat) : midByte b lo lo = b := by
  apply UInt8.toNat_inj.1
  rw [midByte_val _ _ _ (Nat.le_refl _)]
  have hm := Nat.mod_le b.toNat (2 ^ (8 - lo))
  omega
set_option maxRecDepth 100000 in
theorem midByte_end (b : UInt8) (lo : Nat) (h : lo ≤ 8) : midByte b lo 8 = cutByte b lo := by
  apply UInt8.toNat_inj.1
  rw [midByte_val _ _ _ h, cutByte_val]
  simp [Nat.mod_one]
/-- The bit at place s of a byte, counted from its first one. -/
def bitAt (s : Nat) : Int := ((2 ^ (7 - s) : Nat) : Int)
set_option maxRecDepth 100000 in
theorem eight {s : Nat} (h : s ≤ 7) : s = 0 ∨ s = 1 ∨ s = 2 ∨ s = 3 ∨ s = 4 ∨ s = 5 ∨ s = 6 ∨ s = 7 := by omega
set_option maxRecDepth 100000 in
theorem bitAt_bd (s : Nat) (h : s ≤ 7) : 1 ≤ bitAt s ∧ bitAt s ≤ 128 := by
  unfold bitAt
  rcases eight h with rfl | rfl | rfl | rfl | rfl | rfl | rfl | rfl <;> decide
set_option maxRecDepth 100000 in
theorem bitAt_half (s : Nat) (h : s + 1 ≤ 7) : bitAt s / 2 = bitAt (s + 1) := by
  unfold bitAt
  rcases eight (show s ≤ 7 by omega) with rfl | rfl | rfl | rfl | rfl | rfl | rfl | rfl <;> first | (exfalso; omega) | decide
set_option maxRecDepth 100000 in
/-- The bit at place s is set: it is taken off. -/
theorem midByte_on (b : UInt8) (lo s : Nat) (h : lo ≤ s) (hs : s ≤ 7) (h1 : ((midByte b lo s).toNat : Int) / bitAt s % 2 = 1) : ((midByte b lo s).toNat : Int) - bitAt s = ((midByte b lo (s + 1)).toNat : Int) := by
  rw [midByte_val _ _ _ h] at h1 ⊢
  rw [midByte_val _ _ _ (by omega)]
  have hb := UInt8.toNat_lt b
  unfold bitAt at h1 ⊢
  rcases eight hs with rfl | rfl | rfl | rfl | rfl | rfl | rfl | rfl <;> rcases eight (show lo ≤ 7 by omega) with rfl | rfl | rfl | rfl | rfl | rfl | rfl | rfl <;> first | (exfalso; omega) | (simp at h1 ⊢; omega)
set_option maxRecDepth 100000 in
theorem midByte_off (b : UInt8) (lo s : Nat) (h : lo ≤ s) (hs : s ≤ 7) (h1 : ¬ ((midByte b lo s).toNat : Int) / bitAt s % 2 = 1) : midByte b lo (s + 1) = midByte b lo s := by
  apply UInt8.toNat_inj.1
  rw [midByte_val _ _ _ h] at h1 ⊢
  rw [midByte_val _ _ _ (by omega)]
  have hb := UInt8.toNat_lt b
  unfold bitAt at h1
  rcases eight hs with rfl | rfl | rfl | rfl | rfl | rfl | rfl | rfl <;> rcases eight (show lo ≤ 7 by omega) with rfl | rfl | rfl | rfl | rfl | rfl | rfl | rfl <;> first | (exfalso; omega) | (simp at h1 ⊢; omega)
/-- Bytes whose bits n to i - 1 are cleared. -/
def midB (n i : Nat) (bs : List UInt8) : List UInt8 := bs.mapIdx fun j b => midByte b (min 8 (n - 8 * j)) (min 8 (i - 8 * j))
set_option maxRecDepth 100000 in
theorem midB_length (n i : Nat) (bs : List UInt8) : (midB n i bs).length = bs.length := by simp [midB]
set_option maxRecDepth 100000 in
theorem midB_get (n i : Nat) (bs : List UInt8) (j : Nat) (h : j < bs.length) : (midB n i bs)[j]'(by rw [midB_length]; exact h) = midByte bs[j] (min 8 (n - 8 * j)) (min 8 (i - 8 * j)) := by simp [midB]
set_option maxRecDepth 100000 in
theorem midB_start (n : Nat) (bs : List UInt8) : midB n n bs = bs := by
  apply List.ext_getElem (by simp [midB_length])
  intro i h1 h2
  rw [midB_get _ _ _ _ h2, midByte_same]
set_option maxRecDepth 100000 in
theorem midB_end (n i : Nat) (bs : List UInt8) (hi : 8 * bs.length ≤ i) : midB n i bs = cutB n bs := by
  apply List.ext_getElem (by simp [midB_length, cutB_length])
  intro j h1 h2
  rw [cutB_length] at h2
  rw [midB_get _ _ _ _ h2, cutB_get _ _ _ h2, show min 8 (i - 8 * j) = 8 by omega, midByte_end _ _ (by omega)]
set_option maxRecDepth 100000 in
theorem midB_step (n i : Nat) (bs : List UInt8) (h : i / 8 < bs.length) : midB n (i + 1) bs = (midB n i bs).set (i / 8) (midByte bs[i / 8] (min 8 (n - 8 * (i / 8))) (i % 8 + 1)) := by
  apply List.ext_getElem (by simp [midB_length])
  intro j h1 h2
  have hj : j < bs.length := by simpa [midB_length] using h1
  rw [midB_get _ _ _ _ hj, List.getElem_set]
  split
  · rename_i e
    subst e
    congr 1
    omega
  · rename_i e
    rw [midB_get _ _ _ _ hj]
    congr 1
    omega
set_option maxRecDepth 100000 in
theorem midB_at (n i : Nat) (bs : List UInt8) (h : i / 8 < bs.length) : (midB n i bs)[i / 8]'(by rw [midB_length]; exact h) = midByte bs[i / 8] (min 8 (n - 8 * (i / 8))) (i % 8) := by
  rw [midB_get _ _ _ _ h]
  congr 1
  omega

/-- An address with its first n bits kept. -/
def Ad.cut (x : Ad) (n : Int) : Ad := if x.ok = true ∧ 0 ≤ n ∧ n ≤ x.bits then unw x.k (cutB (128 - x.bits + n).toNat x.whole) else Ad.zero
set_option maxRecDepth 100000 in
theorem Ad.cut_of {x : Ad} {n : Int} (h : x.ok = true ∧ 0 ≤ n ∧ n ≤ x.bits) : x.cut n = unw x.k (cutB (128 - x.bits + n).toNat x.whole) := if_pos h
set_option maxRecDepth 100000 in
theorem Ad.cut_not {x : Ad} {n : Int} (h : ¬ (x.ok = true ∧ 0 ≤ n ∧ n ≤ x.bits)) : x.cut n = Ad.zero := if_neg h
set_option maxRecDepth 100000 in
theorem Ad.cut_whole {x : Ad} {n : Int} (h : x.ok = true ∧ 0 ≤ n ∧ n ≤ x.bits) : (x.cut n).whole = cutB (128 - x.bits + n).toNat x.whole := by
  rw [Ad.cut_of h, whole_unw _ _ (by rw [cutB_length, Ad.whole_length])]
set_option maxRecDepth 100000 in
theorem Ad.cut_kind {x : Ad} {n : Int} (h : x.ok = true ∧ 0 ≤ n ∧ n ≤ x.bits) : (x.cut n).k = x.k := by rw [Ad.cut_of h]; rfl
set_option maxRecDepth 100000 in
theorem be_le4 (l : List UInt8) (h : l.length ≤ 4) : (be l : Int) ≤ 4294967295 := by
  have h1 := be_lt l
  have h2 : 256 ^ l.length ≤ 256 ^ 4 := Nat.pow_le_pow_right (by omega) h
  omega
set_option maxRecDepth 100000 in
theorem put32_zero : put32 0 = [0, 0, 0, 0] := by decide
set_option maxRecDepth 100000 in
theorem cutB_append (n : Nat) (x y : List UInt8) : cutB n (x ++ y) = cutB n x ++ cutB (n - 8 * x.length) y := by
  unfold cutB
  rw [List.mapIdx_append]
  congr 1
  apply List.ext_getElem (by simp)
  intro i h1 h2
  simp only [List.getElem_mapIdx]
  congr 1
  omega
set_option maxRecDepth 100000 in
theorem cutB_zeros (n : Nat) : cutB n [0, 0, 0, 0, 0, 0, 0, 0, 0, 0, 0, 0] = [0, 0, 0, 0, 0, 0, 0, 0, 0, 0, 0, 0] := by
  simp [cutB, List.mapIdx_cons, cutByte_zero]
set_option maxRecDepth 100000 in
theorem whole_four {x : Ad} (h : x.a = 0 ∧ x.b = 0 ∧ x.c = 0) : x.whole = [0, 0, 0, 0, 0, 0, 0, 0, 0, 0, 0, 0] ++ put32 x.d := by
  obtain ⟨h1, h2, h3⟩ := h
  rw [Ad.whole, h1, h2, h3, put32_zero]
  rfl
set_option maxRecDepth 100000 in
theorem Ad.ok_four {x : Ad} (h : x.ok = true) (hk : x.k = 4) : x.a = 0 ∧ x.b = 0 ∧ x.c = 0 := by
  rw [Ad.ok_iff] at h
  omega
set_option maxRecDepth 100000 in
/-- What is cut of an address of kind 4: its own four bytes. -/
theorem Ad.cut_four {x : Ad} {n : Int} (h : x.ok = true) (hk : x.k = 4) (h0 : 0 ≤ n) (h1 : n ≤ 32) : x.cut n = ⟨4, 0, 0, 0, be (cutB n.toNat (put32 x.d))⟩ := by
  have hb : x.bits = 32 := by simp [Ad.bits, hk]
  rw [Ad.cut_of ⟨h, h0, by omega⟩, whole_four (x.ok_four h hk), hb, cutB_append, cutB_zeros, hk]
  have e : (128 - 32 + n).toNat - 8 * ([0, 0, 0, 0, 0, 0, 0, 0, 0, 0, 0, 0] : List UInt8).length = n.toNat := by simp; omega
  rw [e]
  have hl : (cutB n.toNat (put32 x.d)).length = 4 := by rw [cutB_length]; rfl
  obtain ⟨p, q, r, s, hl⟩ := len4 hl
  rw [hl]
  simp [unw, be]
set_option maxRecDepth 100000 in
theorem Ad.cut_six {x : Ad} {n : Int} (h : x.ok = true) (hk : x.k = 6) (h0 : 0 ≤ n) (h1 : n ≤ 128) : x.cut n = unw 6 (cutB n.toNat x.whole) := by
  have hb : x.bits = 128 := by simp [Ad.bits, hk]
  rw [Ad.cut_of ⟨h, h0, by omega⟩, hb, hk]
  congr 2
  omega
set_option maxRecDepth 100000 in
theorem Ad.cut_ok {x : Ad} {n : Int} (h : x.ok = true ∧ 0 ≤ n ∧ n ≤ x.bits) : (x.cut n).ok = true := by
  obtain ⟨h, h0, h1⟩ := h
  rcases x.ok_kind h with hk | hk
  · rw [x.cut_four h hk h0 (by simp [Ad.bits, hk] at h1; exact h1), Ad.ok_iff]
    have := be_le4 (cutB n.toNat (put32 x.d)) (by rw [cutB_length]; simp [put32])
    exact .inl ⟨rfl, rfl, rfl, rfl, by simp, this⟩
  · rw [x.cut_six h hk h0 (by simp [Ad.bits, hk] at h1; exact h1), Ad.ok_iff]
    exact .inr ⟨rfl, ⟨by simp [unw], be_le4 _ (List.length_take_le _ _)⟩, ⟨by simp [unw], be_le4 _ (List.length_take_le _ _)⟩, ⟨by simp [unw], be_le4 _ (List.length_take_le _ _)⟩, by simp [unw], be_le4 _ (List.length_take_le _ _)⟩
set_option maxRecDepth 100000 in
theorem Ad.cut_bits {x : Ad} {n : Int} (h : x.ok = true ∧ 0 ≤ n ∧ n ≤ x.bits) : (x.cut n).bits = x.bits := by simp [Ad.bits, Ad.cut_kind h]
set_option maxRecDepth 100000 in
/-- Cut to n bits is y exactly if the bytes are. -/
theorem Ad.cut_eq {x y : Ad} {n : Int} (h : x.ok = true ∧ 0 ≤ n ∧ n ≤ x.bits) (hy : y.ok = true) (hk : x.k = y.k) : x.cut n = y ↔ cutB (128 - x.bits + n).toNat x.whole = y.whole := by
  constructor
  · intro e
    rw [← Ad.cut_whole h, e]
  · intro e
    exact whole_inj _ _ (Ad.cut_ok h) hy (by rw [Ad.cut_kind h, hk]) (by rw [Ad.cut_whole h, e])
set_option maxRecDepth 100000 in
theorem Ad.cut_cut {x : Ad} {n m : Int} (h : x.ok = true ∧ 0 ≤ n ∧ n ≤ x.bits) (h0 : 0 ≤ m) (h1 : m ≤ n) : (x.cut n).cut m = x.cut m := by
  have hm : x.ok = true ∧ 0 ≤ m ∧ m ≤ x.bits := ⟨h.1, h0, by omega⟩
  have hb := Ad.cut_bits h
  have hx : (x.cut n).ok = true ∧ 0 ≤ m ∧ m ≤ (x.cut n).bits := ⟨Ad.cut_ok h, h0, by omega⟩
  rw [Ad.cut_of hx, Ad.cut_of hm, Ad.cut_whole h, hb, Ad.cut_kind h, cutB_cut _ _ (by omega)]

/-- A prefix: an address and a length. -/
structure Pf where
  base : Ad
  len : Int
deriving DecidableEq
def Pf.zero : Pf := ⟨Ad.zero, 0⟩
def Pf.val (p : Pf) : Value := .agg #[.int .i64 p.base.k, .int .i64 p.base.a, .int .i64 p.base.b, .int .i64 p.base.c, .int .i64 p.base.d, .int .i64 p.len]
def Pf.ok (p : Pf) : Bool := decide (p = Pf.zero) || (p.base.ok && decide (0 ≤ p.len ∧ p.len ≤ p.base.bits) && decide (p.base.cut p.len = p.base))
def Pf.has (p : Pf) (x : Ad) : Bool := p.ok && x.ok && (decide (p = Pf.zero) || (decide (p.base.k = x.k) && decide (x.cut p.len = p.base)))
def Pf.inn (p q : Pf) : Bool := p.ok && q.ok && (decide (q = Pf.zero) || (!decide (p = Pf.zero) && decide (p.base.k = q.base.k) && decide (q.len ≤ p.len) && q.has p.base))
set_option maxRecDepth 100000 in
theorem zero_not_ok : Ad.zero.ok = false := by decide
set_option maxRecDepth 100000 in
/-- Each address of a prefix that lies in another one is in the other one. -/
theorem Pf.holds (p q : Pf) (x : Ad) (h : p.inn q = true) (hx : p.has x = true) : q.has x = true := by
  simp only [Pf.inn, Pf.has, Bool.and_eq_true, Bool.or_eq_true, decide_eq_true_eq, Bool.not_eq_true', decide_eq_false_iff_not] at h hx ⊢
  obtain ⟨⟨hp, hq⟩, h⟩ := h
  obtain ⟨⟨_, hox⟩, hx⟩ := hx
  refine ⟨⟨hq, hox⟩, ?_⟩
  rcases h with h | ⟨⟨⟨hpz, hk⟩, hl⟩, ⟨_, hob⟩, hc⟩
  · exact .inl h
  · rcases hc with hc | ⟨_, hc⟩
    · exact .inl hc
    · rcases hx with hx | ⟨hxk, hxc⟩
      · exact absurd hx hpz
      · right
        refine ⟨by rw [← hk, hxk], ?_⟩
        simp only [Pf.ok, Bool.or_eq_true, Bool.and_eq_true, decide_eq_true_eq] at hp hq
        rcases hq with hq | ⟨⟨_, hq0, hq1⟩, _⟩
        · subst hq
          have hz := p.base.ok_kind hob
          rw [hk] at hz
          exact absurd hz (by decide)
        · rcases hp with hp | ⟨⟨_, hp0, hp1⟩, _⟩
          · exact absurd hp hpz
          · have hb : x.bits = p.base.bits := by simp [Ad.bits, hxk]
            rw [← hc, ← hxc]
            exact (Ad.cut_cut (x := x) (n := p.len) (m := q.len) ⟨hox, hp0, by omega⟩ hq0 hl).symm
end Go.Proofs.YtckakpcjbndijabDoor
namespace Go.Proofs.YtckakpcjbndijabDoor
open Go.RowKit

def strOf (bs : List UInt8) : ByteArray := ⟨bs.toArray⟩
set_option maxRecDepth 100000 in
theorem strOf_size (bs : List UInt8) : (strOf bs).size = bs.length := by simp [strOf, ByteArray.size]
set_option maxRecDepth 100000 in
theorem strOf_data (bs : List UInt8) : (strOf bs).data.toList = bs := rfl
set_option maxRecDepth 100000 in
theorem strOf_toList (s : ByteArray) : strOf s.data.toList = s := rfl

set_option maxRecDepth 100000 in
theorem conv_b (w : World) (B : Nat) (A : Option Addr) (n c : Nat) (bs : List UInt8) (hl : bs.length = n) (hr : RB w B A bs) :
    (convert 42 9 (.slice A n c)).run Tryd.prog w = .ok (.string (strOf bs)) w := by
  subst hl
  rcases bs with _ | ⟨b, bs⟩
  · rcases A with _ | a
    · exact run_convert_bytes_nil w 42 5 Tryd.underlying42 Tryd.underlying5 _ c 9 Tryd.underlying9
    · rw [run_convert_bytes_string w 42 9 5 _ _ c Tryd.underlying42 Tryd.underlying5 Tryd.underlying9]
      have h := run_bytesToString (P := Tryd.prog) w a 0 c [] (by
        have := run_loadCells_list (P := Tryd.prog) w a [] (fun j v hj => by simp at hj)
        simpa using this)
      exact h
  · generalize hbs : b :: bs = l at *
    obtain ⟨g, o, rfl, _, hc⟩ := hr (by rw [← hbs]; simp)
    have h := run_convert_bytes_arg (P := Tryd.prog) w 42 5 Tryd.underlying42 Tryd.underlying5 g o l.length c (l.map fun u => (u.toNat : Int)) (by simp) (fun i hi => by
      rw [hc i _ (List.getElem?_eq_getElem hi)]
      simp [hi]) 9 Tryd.underlying9
    rw [h]
    have e : strOfNums (l.map fun u => (u.toNat : Int)) = strOf l := by simp [strOfNums, strOf, Function.comp_def]
    rw [e]
end Go.Proofs.YtckakpcjbndijabDoor
namespace Go.Proofs.YtckakpcjbndijabDoor
open Go.RowKit

/-- The decimal digits of a number that is not 0; of 0 none. -/
def dec (n : Nat) : List UInt8 := if _h : n = 0 then [] else dec (n / 10) ++ [UInt8.ofNat (48 + n % 10)]
termination_by n
decreasing_by omega

set_option maxRecDepth 100000 in
theorem dec_zero : dec 0 = [] := by unfold dec; rfl
set_option maxRecDepth 100000 in
theorem dec_pos (n : Nat) (h : n ≠ 0) : dec n = dec (n / 10) ++ [UInt8.ofNat (48 + n % 10)] := by rw [dec, dif_neg h]
set_option maxRecDepth 100000 in
theorem dec_len (k : Nat) : ∀ n, n < 10 ^ k → (dec n).length ≤ k := by
  induction k with
  | zero => intro n h; have : n = 0 := by simpa using h
            subst this; simp [dec_zero]
  | succ k ih =>
    intro n h
    by_cases h0 : n = 0
    · subst h0; simp [dec_zero]
    · rw [dec_pos n h0]
      have := ih (n / 10) (by rw [Nat.pow_succ] at h; omega)
      simp
      exact this

/-- The text that the model gives of n. -/
def numText (n : Int) : List UInt8 := if n = 0 then [48] else if n < 0 then 45 :: dec n.natAbs else dec n.natAbs

set_option maxRecDepth 100000 in
theorem digit_val (d : Nat) (h : d < 10) : ((UInt8.ofNat (48 + d)).toNat : Int) = 48 + (d : Int) := by
  simp
  omega

set_option maxRecDepth 100000 in
theorem num_step (n m : Int) (bs : List UInt8) (h : dec n.natAbs = dec m.natAbs ++ bs) (hm : m ≠ 0) : dec n.natAbs = dec (m.tdiv 10).natAbs ++ (UInt8.ofNat (48 + m.natAbs % 10) :: bs) := by
  rw [h, dec_pos m.natAbs (by omega), Int.natAbs_tdiv]
  simp
  rfl

set_option maxRecDepth 100000 in
theorem tmod_ten (m : Int) : (0 < m → m.tmod 10 = (m.natAbs % 10 : Nat)) ∧ (m < 0 → m.tmod 10 = -(m.natAbs % 10 : Nat)) := by
  constructor
  · intro h
    rw [Int.tmod_eq_emod_of_nonneg (by omega)]
    omega
  · intro h
    have h1 : m = -(-m) := by omega
    rw [h1, Int.neg_tmod, Int.tmod_eq_emod_of_nonneg (by omega)]
    omega

set_option maxRecDepth 100000 in
theorem tdiv_neg_ten (m : Int) (h : m < 0) (hm : -9223372036854775808 ≤ m) : -922337203685477580 ≤ m.tdiv 10 ∧ m.tdiv 10 ≤ 0 := by
  have h1 : m.tdiv 10 = -((-m) / 10) := by
    conv => lhs; rw [show m = -(-m) by omega]
    rw [Int.neg_tdiv, Int.tdiv_eq_ediv_of_nonneg (by omega)]
  rw [h1]
  omega

set_option maxRecDepth 100000 in
/-- One byte in a new block. -/
theorem own_byte (w : World) (base : Nat) (hb : base ≤ w.heap.size) (x : Int) (b : UInt8) (h : (b.toNat : Int) = x) :
    (w.alloc (.cells #[.int .u8 x] 5)).ownsRow base 5 1 (.slice (some ⟨w.heap.size, 0, none⟩) 1 1) [b].length (cellsOf [b]) := by
  subst h
  exact World.ownsRow_lit w #[.int .u8 (b.toNat : Int)] 1 hb (by decide) rfl

set_option maxRecDepth 100000 in
set_option maxHeartbeats 1000000 in
theorem specNumText (n : Int) (w : World) (hw : -9223372036854775808 ≤ n ∧ n ≤ 9223372036854775807) :
    Calls Tryd.prog 29 #[.int .i64 n] w fun e w' => e = .returned (.string (strOf (numText n))) ∧ Below w.heap.size w w' := by
  by_cases h0 : n = 0
  · subst h0
    go_enter Tryd.func29, Tryd.ntmps29
    go_wp2
    go_ret
    exact ⟨rfl, Below.refl _ _⟩
  · have hne : (n == 0) = false := by simpa using h0
    go_enter Tryd.func29, Tryd.ntmps29
    go_wp2
    go_loopw [3, 4] (fun v q wr => ∃ (bs : List UInt8) (m : Int), q = .int .i64 m ∧ -9223372036854775808 ≤ m ∧ m ≤ 9223372036854775807 ∧ dec n.natAbs = dec m.natAbs ++ bs ∧ wr.ownsRow w.heap.size 5 1 v bs.length (cellsOf bs) ∧ Below w.heap.size w wr) (fun _ q _ => (intOf q).natAbs)
    case atStart => exact ⟨[], n, rfl, hw.1, hw.2, by simp, World.ownsRow_lit w #[] 0 (Nat.le_refl _) (Nat.zero_le _) rfl, (Below.refl _ _).alloc (Nat.le_refl _) _⟩
    case round =>
      obtain ⟨bs, m, rfl, hm1, hm2, hdec, hown, hb⟩ := hrel
      obtain ⟨A, c, rfl⟩ := own_form hown
      by_cases hm0 : m = 0
      · subst hm0
        have hlen : bs.length ≤ 20 := by
          have h1 := dec_len 20 n.natAbs (by omega)
          rw [hdec, List.length_append] at h1
          omega
        have hbs : bs = dec n.natAbs := by rw [hdec]; simp [dec_zero]
        have hz := hb.size
        by_cases hneg : n < 0
        · have o1 := own_byte wr w.heap.size hb.size 45 45 rfl
          have r1 := (RB.of_own (hown.alloc (.cells #[.int .u8 45] 5)))
          have hb2 := Lib.hid (hb.alloc hb.size (.cells #[.int .u8 45] 5))
          have hbq := Lib.hid hbs; clear hbs
          clear hdec
          go_wp2_with (at_builtin; refine wpList_append_b rfl (.tmp 28) (.tmp 29) rfl w.heap.size (.slice (some ⟨wr.heap.size, 0, none⟩) 1 1) [45] rfl o1 _ A bs.length c bs rfl rfl r1 (by simp; omega) (by simp; omega) ?_; intro v3 w3 hown3 hg3 _; obtain ⟨A3, c3, rfl⟩ := own_form hown3; have hcv := conv_b w3 _ A3 (bs.length + 1) c3 (45 :: bs) (by simp) (RB.of_own (bs := 45 :: bs) hown3))
          go_ret
          refine ⟨?_, hb2.out.grown hg3 (by simp; omega) (by intro k hk; simp [Value.ownBlock] at hk; omega)⟩
          rw [numText, if_neg h0, if_pos hneg, ← hbq.out]
          rfl
        · have hbq := Lib.hid hbs; clear hbs
          have hcv := conv_b wr _ A bs.length c bs rfl (RB.of_own hown)
          clear hdec
          go_wp2
          go_ret
          refine ⟨?_, hb⟩
          rw [numText, if_neg h0, if_neg (by omega), ← hbq.out]
          rfl
      · have hmne : (m == 0) = false := by simpa using hm0
        have hst := Lib.hid (num_step n m bs hdec hm0)
        have hten := tmod_ten m
        have hlen : bs.length ≤ 20 := by
          have h1 := dec_len 20 n.natAbs (by omega)
          rw [hdec, List.length_append] at h1
          omega
        obtain ⟨d, hd⟩ : ∃ d : Nat, d = m.natAbs % 10 := ⟨_, rfl⟩
        rw [← hd] at hten hst
        have hd10 : d < 10 := by omega
        have hz := hb.size
        have o1 := own_byte wr w.heap.size hb.size (48 + (d : Int)) (UInt8.ofNat (48 + d)) (digit_val d hd10)
        have r1 := (RB.of_own (hown.alloc (.cells #[.int .u8 (48 + (d : Int))] 5)))
        have hb2 := Lib.hid (hb.alloc hb.size (.cells #[.int .u8 (48 + (d : Int))] 5))
        rcases Int.lt_or_gt_of_ne hm0 with hneg | hpos
        · have hdm := hten.2 hneg
          obtain ⟨t1, t2⟩ := tdiv_neg_ten m hneg hm1
          have hdn : 0 < d ∨ d = 0 := by omega
          have hm3 := Lib.hid (show (m.tdiv 10).natAbs < m.natAbs by rw [Int.natAbs_tdiv]; exact Nat.div_lt_self (by omega) (by omega))
          clear hten hdec hd
          rcases hdn with hdp | rfl
          · go_wp2_with (at_builtin; refine wpList_append_b rfl (.tmp 23) (.tmp 24) rfl w.heap.size (.slice (some ⟨wr.heap.size, 0, none⟩) 1 1) [UInt8.ofNat (48 + d)] rfl o1 _ A bs.length c bs rfl rfl r1 (by simp; omega) (by simp; omega) ?_; intro v3 w3 hown3 hg3 _)
            go_roundw
            case rel => exact ⟨_, _, rfl, by omega, by omega, hst.out, hown3, hb2.out.grown hg3 (by simp; omega) (by intro k hk; simp [Value.ownBlock] at hk; omega)⟩
            case measure => simp only [intOf]; exact hm3.out
          · go_wp2_with (at_builtin; refine wpList_append_b rfl (.tmp 23) (.tmp 24) rfl w.heap.size (.slice (some ⟨wr.heap.size, 0, none⟩) 1 1) [UInt8.ofNat (48 + 0)] rfl o1 _ A bs.length c bs rfl rfl r1 (by simp; omega) (by simp; omega) ?_; intro v3 w3 hown3 hg3 _)
            go_roundw
            case rel => exact ⟨_, _, rfl, by omega, by omega, hst.out, hown3, hb2.out.grown hg3 (by simp; omega) (by intro k hk; simp [Value.ownBlock] at hk; omega)⟩
            case measure => simp only [intOf]; exact hm3.out
        · have hdm := hten.1 hpos
          have hq := Lib.hid (Int.tdiv_eq_ediv_of_nonneg (a := m) (b := 10) (by omega))
          clear hten hdec hd
          go_wp2_with (at_builtin; refine wpList_append_b rfl (.tmp 23) (.tmp 24) rfl w.heap.size (.slice (some ⟨wr.heap.size, 0, none⟩) 1 1) [UInt8.ofNat (48 + d)] rfl o1 _ A bs.length c bs rfl rfl r1 (by simp; omega) (by simp; omega) ?_; intro v3 w3 hown3 hg3 _)
          go_roundw
          case rel => exact ⟨_, m / 10, rfl, by omega, by omega, by rw [← hq.out]; exact hst.out, hown3, hb2.out.grown hg3 (by simp; omega) (by intro k hk; simp [Value.ownBlock] at hk; omega)⟩
          case measure => simp only [intOf]; omega
end Go.Proofs.YtckakpcjbndijabDoor
namespace Go.Proofs.YtckakpcjbndijabDoor

def isDig (b : UInt8) : Bool := decide (48 ≤ b.toNat ∧ b.toNat ≤ 57)
def val (l : List UInt8) : Nat := l.foldl (fun n b => 10 * n + (b.toNat - 48)) 0
def okNum (l : List UInt8) : Bool := decide (1 ≤ l.length ∧ l.length ≤ 12) && l.all isDig && (decide (l.length = 1) || decide (l.head? ≠ some 48))
def numR (l : List UInt8) : Int := if okNum l = true then (val l : Int) else 0

set_option maxRecDepth 100000 in
theorem val_snoc (l : List UInt8) (b : UInt8) : val (l ++ [b]) = 10 * val l + (b.toNat - 48) := by simp [val]
set_option maxRecDepth 100000 in
theorem val_take (l : List UInt8) (k : Nat) (h : k < l.length) : val (l.take (k + 1)) = 10 * val (l.take k) + (l[k].toNat - 48) := by rw [take_snoc l k h, val_snoc]

set_option maxRecDepth 100000 in
theorem val_from (l : List UInt8) (hd : l.all isDig = true) : ∀ a : Nat, l.foldl (fun n b => 10 * n + (b.toNat - 48)) a < (a + 1) * 10 ^ l.length := by
  induction l with
  | nil => intro a; simp
  | cons b l ih =>
    intro a
    simp only [List.all_cons, Bool.and_eq_true, isDig, decide_eq_true_eq] at hd
    have h := ih hd.2 (10 * a + (b.toNat - 48))
    have h2 : (10 * a + (b.toNat - 48) + 1) * 10 ^ l.length ≤ (10 * (a + 1)) * 10 ^ l.length := Nat.mul_le_mul_right _ (by omega)
    simp only [List.foldl_cons, List.length_cons, Nat.pow_succ]
    have h3 : (a + 1) * (10 ^ l.length * 10) = (10 * (a + 1)) * 10 ^ l.length := by rw [Nat.mul_comm (10 ^ l.length) 10, ← Nat.mul_assoc, Nat.mul_comm (a + 1) 10]
    omega
set_option maxRecDepth 100000 in
theorem val_lt (l : List UInt8) (hd : l.all isDig = true) (h : l.length ≤ 12) : val l < 1000000000000 := by
  have h1 := val_from l hd 0
  have h2 : 10 ^ l.length ≤ 10 ^ 12 := Nat.pow_le_pow_right (by omega) h
  simp only [Nat.zero_add, Nat.one_mul] at h1
  unfold val
  omega

set_option maxRecDepth 100000 in
theorem isDig_of (b : UInt8) (h : isDig b = true) : 48 ≤ b.toNat ∧ b.toNat ≤ 57 := by simpa [isDig] using h
set_option maxRecDepth 100000 in
theorem all_take (l : List UInt8) (k : Nat) (h : k < l.length) : (l.take (k + 1)).all isDig = ((l.take k).all isDig && isDig l[k]) := by rw [take_snoc l k h, List.all_append]; simp

set_option maxRecDepth 100000 in
theorem dig_back (b : UInt8) (h : isDig b = true) : UInt8.ofNat (48 + (b.toNat - 48) % 10) = b := by
  have := isDig_of b h
  rw [Nat.mod_eq_of_lt (by omega), show 48 + (b.toNat - 48) = b.toNat by omega]
  exact UInt8.ofNat_toNat

set_option maxRecDepth 100000 in
/-- Induction from the right. -/
theorem snoc_ind {T : Type} {P : List T → Prop} (h0 : P []) (hs : ∀ l a, P l → P (l ++ [a])) : ∀ l, P l := by
  intro l
  have h : ∀ l : List T, P l.reverse := by
    intro l
    induction l with
    | nil => exact h0
    | cons a l ih => rw [List.reverse_cons]; exact hs _ _ ih
  have := h l.reverse
  rwa [List.reverse_reverse] at this

set_option maxRecDepth 100000 in
theorem dec_val (l : List UInt8) : l.all isDig = true → l.head? ≠ some 48 → dec (val l) = l := by
  induction l using snoc_ind with
  | h0 => intro _ _; simp [val, dec_zero]
  | hs l a ih =>
    intro hd hh
    rw [List.all_append, Bool.and_eq_true] at hd
    have hda : isDig a = true := by simpa using hd.2
    have hb := isDig_of a hda
    have hl : dec (val l) = l := ih hd.1 (by
      rcases l with _ | ⟨b, l⟩
      · simp
      · simpa using hh)
    rw [val_snoc]
    have hne : 10 * val l + (a.toNat - 48) ≠ 0 := by
      rcases l with _ | ⟨b, l⟩
      · have : a.toNat ≠ 48 := by
          intro e
          apply hh
          have : a = 48 := UInt8.toNat_inj.1 e
          simp [this]
        omega
      · have : val (b :: l) ≠ 0 := by
          intro e
          rw [e, dec_zero] at hl
          cases hl
        omega
    rw [dec_pos _ hne, show (10 * val l + (a.toNat - 48)) / 10 = val l by omega, hl, show (10 * val l + (a.toNat - 48)) % 10 = (a.toNat - 48) % 10 by omega, dig_back a hda]

set_option maxRecDepth 100000 in
theorem dec_head (n : Nat) : n ≠ 0 → ∃ b t, dec n = b :: t ∧ b ≠ 48 := by
  induction n using Nat.strongRecOn with
  | ind n ih =>
    intro h
    rw [dec_pos n h]
    by_cases h10 : n / 10 = 0
    · rw [h10, dec_zero]
      refine ⟨_, [], rfl, fun e => ?_⟩
      have := congrArg UInt8.toNat e
      simp at this
      omega
    · obtain ⟨b, t, hb, hne⟩ := ih (n / 10) (by omega) h10
      exact ⟨b, t ++ [UInt8.ofNat (48 + n % 10)], by rw [hb]; rfl, hne⟩

set_option maxRecDepth 100000 in
theorem numText_val (l : List UInt8) (hd : l.all isDig = true) (h1 : 1 ≤ l.length) (h2 : l.length = 1 ∨ l.head? ≠ some 48) : numText (val l : Int) = l := by
  by_cases hz : l.head? = some 48
  · rcases h2 with h2 | h2
    · match l, h2 with
      | [a], _ =>
        simp at hz
        subst hz
        rfl
    · exact absurd hz h2
  · have h := dec_val l hd hz
    have hne : val l ≠ 0 := by
      intro e
      rw [e, dec_zero] at h
      rw [← h] at h1
      simp at h1
    rw [numText, if_neg (by omega), if_neg (by omega), Int.natAbs_natCast, h]

set_option maxRecDepth 100000 in
theorem numText_not (l : List UInt8) (h1 : 1 < l.length) (h2 : l.head? = some 48) : numText (val l : Int) ≠ l := by
  intro e
  by_cases hz : val l = 0
  · rw [hz] at e
    rw [← e] at h1
    simp [numText] at h1
  · rw [numText, if_neg (by omega), if_neg (by omega), Int.natAbs_natCast] at e
    obtain ⟨b, t, hb, hne⟩ := dec_head _ hz
    rw [← e, hb] at h2
    simp at h2
    exact hne h2

set_option maxRecDepth 100000 in
theorem okNum_yes (l : List UInt8) (h1 : 1 ≤ l.length) (h2 : l.length ≤ 12) (hd : l.all isDig = true) (h3 : l.length = 1 ∨ l.head? ≠ some 48) : okNum l = true := by
  simp only [okNum, Bool.and_eq_true, Bool.or_eq_true, decide_eq_true_eq]
  exact ⟨⟨⟨h1, h2⟩, hd⟩, h3⟩
set_option maxRecDepth 100000 in
theorem okNum_len (l : List UInt8) (h : ¬ (1 ≤ l.length ∧ l.length ≤ 12)) : okNum l = false := by simp [okNum, h]
set_option maxRecDepth 100000 in
theorem okNum_zero (l : List UInt8) (h : 1 < l.length) (hh : l.head? = some 48) : okNum l = false := by simp [okNum, hh, show l.length ≠ 1 by omega]
set_option maxRecDepth 100000 in
theorem okNum_dig (l : List UInt8) (k : Nat) (h : k < l.length) (hd : isDig l[k] = false) : okNum l = false := by
  have : l.all isDig = false := by
    rw [List.all_eq_false]
    exact ⟨l[k], List.getElem_mem h, by simp [hd]⟩
  simp [okNum, this]
end Go.Proofs.YtckakpcjbndijabDoor
namespace Go.Proofs.YtckakpcjbndijabDoor
open Go.RowKit

def hexDig (d : Nat) : UInt8 := if d < 10 then UInt8.ofNat (48 + d) else UInt8.ofNat (87 + d)
def hexOf (bs : List UInt8) : List UInt8 := bs.flatMap fun b => [hexDig (b.toNat / 16), hexDig (b.toNat % 16)]
set_option maxRecDepth 100000 in
theorem hexOf_length (bs : List UInt8) : (hexOf bs).length = 2 * bs.length := by
  induction bs with
  | nil => rfl
  | cons b bs ih => simp only [hexOf, List.flatMap_cons, List.length_append, List.length_cons, List.length_nil] at *; omega
set_option maxRecDepth 100000 in
theorem hexOf_snoc (bs : List UInt8) (b : UInt8) : hexOf (bs ++ [b]) = hexOf bs ++ [hexDig (b.toNat / 16), hexDig (b.toNat % 16)] := by simp [hexOf]

set_option maxRecDepth 100000 in
theorem hexDig_lo (d : Nat) (h : d < 10) : ((hexDig d).toNat : Int) = 48 + d := by
  simp [hexDig, h]
  omega
set_option maxRecDepth 100000 in
theorem hexDig_hi (d : Nat) (h : ¬ d < 10) (h2 : d < 16) : ((hexDig d).toNat : Int) = 87 + d := by
  simp [hexDig, h]
  omega

set_option maxRecDepth 100000 in
/-- The program's constant text of the sixteen digits. -/
theorem index_hex (d : Nat) (h : d < 16) (w : World) :
    (Instr.index 9 (.string ⟨#[48, 49, 50, 51, 52, 53, 54, 55, 56, 57, 97, 98, 99, 100, 101, 102]⟩) (.int .u8 (d : Int))).run Tryd.prog w = .ok (.int .u8 ((hexDig d).toNat : Int)) w := by
  have : d = 0 ∨ d = 1 ∨ d = 2 ∨ d = 3 ∨ d = 4 ∨ d = 5 ∨ d = 6 ∨ d = 7 ∨ d = 8 ∨ d = 9 ∨ d = 10 ∨ d = 11 ∨ d = 12 ∨ d = 13 ∨ d = 14 ∨ d = 15 := by omega
  rcases this with rfl | rfl | rfl | rfl | rfl | rfl | rfl | rfl | rfl | rfl | rfl | rfl | rfl | rfl | rfl | rfl <;> (show _ = _; kernel_rfl)

set_option maxRecDepth 100000 in
set_option maxHeartbeats 400000 in
theorem specDigit (d : Int) (w : World) (h0 : 0 ≤ d) (h : d < 16) :
    Calls Tryd.prog 58 #[.int .i64 d] w fun e w' => e = .returned (.int .u8 ((hexDig d.toNat).toNat : Int)) ∧ w = w' := by
  by_cases h1 : d < 10
  · go_enter Tryd.func58, Tryd.ntmps58
    go_wp2
    go_ret
    exact ⟨ret_int (by rw [hexDig_lo d.toNat (by omega)]; omega), rfl⟩
  · go_enter Tryd.func58, Tryd.ntmps58
    go_wp2
    go_ret
    exact ⟨ret_int (by rw [hexDig_hi d.toNat (by omega) (by omega)]; omega), rfl⟩

set_option maxRecDepth 100000 in
theorem specDigitN (d : Nat) (w : World) (h : d < 16) :
    Calls Tryd.prog 58 #[.int .i64 (d : Int)] w fun e w' => e = .returned (.int .u8 ((hexDig d).toNat : Int)) ∧ w = w' := by
  have := specDigit (d : Int) w (by omega) (by omega)
  simpa using this

set_option maxRecDepth 100000 in
theorem byte_parts (b : Nat) (h : b < 256) : IntKind.i64.wrap (b : Int) = b ∧ IntKind.i64.wrap ((b : Int) / 16) = ((b / 16 : Nat) : Int) ∧ IntKind.i64.wrap ((b : Int).tmod 16) = ((b % 16 : Nat) : Int) ∧ (b : Int).tmod 16 = ((b % 16 : Nat) : Int) := by
  rw [Int.tmod_eq_emod_of_nonneg (by omega), IntKind.wrap_i64, IntKind.wrap_i64, IntKind.wrap_i64]
  omega

set_option maxRecDepth 100000 in
theorem and15 (b : UInt8) : bits .and .u8 (b.toNat : Int) 15 = (b.toNat : Int) % 16 := by
  have hb : b.toNat < 256 := UInt8.toNat_lt b
  generalize b.toNat = n at *
  have e : (BitVec.ofInt 8 (n : Int)).toNat = n := by
    rw [BitVec.ofInt_natCast, BitVec.toNat_ofNat]
    exact Nat.mod_eq_of_lt (by omega)
  have e2 : n &&& 15 = n % 16 := Nat.and_two_pow_sub_one_eq_mod n 4
  show IntKind.u8.wrap ((BitVec.ofInt 8 (n : Int) &&& BitVec.ofInt 8 15).toNat : Int) = _
  rw [BitVec.toNat_and, e, show (BitVec.ofInt 8 15).toNat = 15 from rfl, e2, IntKind.wrap_u8]
  omega

end Go.Proofs.YtckakpcjbndijabDoor
namespace Go.Proofs.YtckakpcjbndijabDoor

/-- The value of a hexadecimal digit; 16 for another byte. -/
def hexV (b : UInt8) : Nat := if 48 ≤ b.toNat ∧ b.toNat ≤ 57 then b.toNat - 48 else if 97 ≤ b.toNat ∧ b.toNat ≤ 102 then b.toNat - 87 else 16
set_option maxRecDepth 100000 in
theorem hexV_le (b : UInt8) : hexV b ≤ 16 := by unfold hexV; split <;> (try split) <;> omega

set_option maxRecDepth 100000 in
theorem hexV_dig (d : Nat) (h : d < 16) (b : UInt8) : b.toNat = (hexDig d).toNat ↔ hexV b = d := by
  by_cases h10 : d < 10
  · have e := hexDig_lo d h10
    unfold hexV
    split
    · omega
    · split <;> omega
  · have e := hexDig_hi d h10 h
    unfold hexV
    split
    · omega
    · split <;> omega

def hexAt (l : List UInt8) (i : Nat) : Nat := hexV (l.getD i 0)
def hexBytes (l : List UInt8) : List UInt8 := (List.range (l.length / 2)).map fun j => UInt8.ofNat (16 * hexAt l (2 * j) + hexAt l (2 * j + 1))
def okHex (l : List UInt8) : Bool := decide (l.length % 2 = 0 ∧ l.length ≤ 8000) && l.all (fun b => decide (hexV b < 16))
def hexR (l : List UInt8) : List UInt8 := if okHex l = true then hexBytes l else []

set_option maxRecDepth 100000 in
theorem okHex_len (l : List UInt8) (h : ¬ (l.length % 2 = 0 ∧ l.length ≤ 8000)) : okHex l = false := by simp only [okHex, h]; rfl
set_option maxRecDepth 100000 in
theorem okHex_bad (l : List UInt8) (i : Nat) (h : i < l.length) (hb : ¬ hexV l[i] < 16) : okHex l = false := by
  have : l.all (fun b => decide (hexV b < 16)) = false := by
    rw [List.all_eq_false]
    exact ⟨l[i], List.getElem_mem h, by simpa using hb⟩
  rw [okHex, this, Bool.and_false]
set_option maxRecDepth 100000 in
theorem okHex_yes (l : List UInt8) (h1 : l.length % 2 = 0) (h2 : l.length ≤ 8000) (h : ∀ i (hi : i < l.length), hexV l[i] < 16) : okHex l = true := by
  have : l.all (fun b => decide (hexV b < 16)) = true := by
    rw [List.all_eq_true]
    intro b hb
    obtain ⟨i, hi, rfl⟩ := List.getElem_of_mem hb
    simpa using h i hi
  rw [okHex, this]
  simp [h1, h2]
set_option maxRecDepth 100000 in
theorem hexAt_get (l : List UInt8) (i : Nat) (h : i < l.length) : hexAt l i = hexV l[i] := by simp [hexAt, h]

set_option maxRecDepth 100000 in
theorem hexBytes_length (l : List UInt8) : (hexBytes l).length = l.length / 2 := by simp [hexBytes]

/-- The program's row of bytes after i characters: byte j. -/
def hexSt (l : List UInt8) (i j : Nat) : Nat := if 2 * j + 1 < i then 16 * hexAt l (2 * j) + hexAt l (2 * j + 1) else if 2 * j < i then hexAt l (2 * j) else 0
def hexRow (l : List UInt8) (i : Nat) : List UInt8 := (List.range (l.length / 2)).map fun j => UInt8.ofNat (hexSt l i j)
set_option maxRecDepth 100000 in
theorem hexRow_length (l : List UInt8) (i : Nat) : (hexRow l i).length = l.length / 2 := by simp [hexRow]
set_option maxRecDepth 100000 in
theorem hexRow_zero (l : List UInt8) : hexRow l 0 = List.replicate (l.length / 2) 0 := by
  apply List.ext_getElem?
  intro j
  by_cases h : j < l.length / 2
  · simp [hexRow, hexSt, h]
  · simp [hexRow, h]
set_option maxRecDepth 100000 in
theorem hexRow_end (l : List UInt8) (h : l.length % 2 = 0) : hexRow l l.length = hexBytes l := by
  unfold hexRow hexBytes
  apply List.map_congr_left
  intro j hj
  rw [List.mem_range] at hj
  rw [hexSt, if_pos (by omega)]
set_option maxRecDepth 100000 in
theorem hexRow_get (l : List UInt8) (i j : Nat) (h : j < l.length / 2) : (hexRow l i)[j]? = some (UInt8.ofNat (hexSt l i j)) := by simp [hexRow, h]
set_option maxRecDepth 100000 in
theorem hexRow_step (l : List UInt8) (i : Nat) :
    (hexRow l i).set (i / 2) (UInt8.ofNat (16 * hexSt l i (i / 2) + hexAt l i)) = hexRow l (i + 1) := by
  apply List.ext_getElem?
  intro j
  have hl := hexRow_length l i
  have hl1 := hexRow_length l (i + 1)
  by_cases hj : j < l.length / 2
  · rw [hexRow_get l (i + 1) j hj]
    by_cases e : j = i / 2
    · subst e
      rw [List.getElem?_set_self (by omega)]
      congr 2
      by_cases ho : i % 2 = 0
      · have hi : 2 * (i / 2) = i := by omega
        rw [hexSt, if_neg (by omega), if_neg (by omega), hexSt, if_neg (by omega), if_pos (by omega), hi]
        omega
      · have hi : 2 * (i / 2) + 1 = i := by omega
        rw [hexSt, if_neg (by omega), if_pos (by omega), hexSt, if_pos (by omega), hi]
    · rw [List.getElem?_set_ne (fun e' => e e'.symm), hexRow_get l i j hj]
      congr 2
      unfold hexSt
      by_cases c1 : 2 * j + 1 < i
      · rw [if_pos c1, if_pos (by omega)]
      · rw [if_neg c1, if_neg (show ¬ 2 * j + 1 < i + 1 by omega)]
        by_cases c2 : 2 * j < i
        · rw [if_pos c2, if_pos (by omega)]
        · rw [if_neg c2, if_neg (by omega)]
  · rw [List.getElem?_eq_none (by simp; omega), List.getElem?_eq_none (by omega)]
set_option maxRecDepth 100000 in
theorem hexSt_lt (l : List UInt8) (i : Nat) (h : ∀ j, j < i → hexAt l j < 16) : hexSt l i (i / 2) < 16 := by
  unfold hexSt
  split
  · omega
  · split
    · exact h _ (by omega)
    · omega
set_option maxRecDepth 100000 in
theorem hexAt_le (l : List UInt8) (i : Nat) : hexAt l i ≤ 16 := hexV_le _
end Go.Proofs.YtckakpcjbndijabDoor
namespace Go.Proofs.YtckakpcjbndijabDoor

def isWord (n : Int) : Bool := decide (0 ≤ n ∧ n ≤ 65535)
set_option maxRecDepth 100000 in
theorem isWord_iff {n : Int} : isWord n = true ↔ 0 ≤ n ∧ n ≤ 65535 := by simp [isWord]
set_option maxRecDepth 100000 in
theorem isWord_not {n : Int} : isWord n = false ↔ n < 0 ∨ 65535 < n := by simp [isWord]; omega

/-- The sum of two words with the carry taken off. -/
def sadd (a b : Int) : Int := if 65535 < a + b then a + b - 65535 else a + b
set_option maxRecDepth 100000 in
theorem sadd_word {a b : Int} (ha : isWord a = true) (hb : isWord b = true) : isWord (sadd a b) = true := by
  rw [isWord_iff] at *
  unfold sadd
  split <;> omega
set_option maxRecDepth 100000 in
theorem sadd_zero {a : Int} (ha : isWord a = true) : sadd 0 a = a := by
  rw [isWord_iff] at ha
  unfold sadd
  split <;> omega

/-- The sum of a list of words from s on. -/
def sums (s : Int) (ws : List Int) : Int := ws.foldl sadd s
set_option maxRecDepth 100000 in
theorem sums_snoc (s : Int) (ws : List Int) (x : Int) : sums s (ws ++ [x]) = sadd (sums s ws) x := by simp [sums]
set_option maxRecDepth 100000 in
theorem sums_append (s : Int) (a b : List Int) : sums s (a ++ b) = sums (sums s a) b := by simp [sums]
set_option maxRecDepth 100000 in
theorem sums_word (ws : List Int) : ∀ s, isWord s = true → ws.all isWord = true → isWord (sums s ws) = true := by
  induction ws with
  | nil => intro s h _; exact h
  | cons x ws ih =>
    intro s h hw
    simp only [List.all_cons, Bool.and_eq_true] at hw
    exact ih _ (sadd_word h hw.1) hw.2

/-- What 'folded' answers. -/
def folded (ws : List Int) : Int := if ws.all isWord then sums 0 ws else -1
set_option maxRecDepth 100000 in
theorem folded_yes {ws : List Int} (h : ws.all isWord = true) : folded ws = sums 0 ws := by rw [folded, if_pos h]
set_option maxRecDepth 100000 in
theorem folded_no {ws : List Int} (k : Nat) (hk : k < ws.length) (h : isWord ws[k] = false) : folded ws = -1 := by
  have : ws.all isWord = false := by
    rw [Bool.eq_false_iff]
    intro ha
    have := List.all_eq_true.1 ha _ (List.getElem_mem hk)
    simp [h] at this
  rw [folded, this]
  rfl
set_option maxRecDepth 100000 in
theorem folded_range (ws : List Int) : -1 ≤ folded ws ∧ folded ws ≤ 65535 := by
  by_cases h : ws.all isWord = true
  · rw [folded_yes h]
    have := isWord_iff.1 (sums_word ws 0 (by decide) h)
    omega
  · rw [folded, if_neg h]
    omega
set_option maxRecDepth 100000 in
theorem all_take_snoc (ws : List Int) (k : Nat) (hk : k < ws.length) (h : (ws.take k).all isWord = true) (hx : isWord ws[k] = true) : (ws.take (k + 1)).all isWord = true := by
  rw [take_snoc ws k hk, List.all_append, h, List.all_cons, hx]
  rfl

/-- What 'complement' answers. -/
def comp (n : Int) : Int := if isWord n then 65535 - n else -1
set_option maxRecDepth 100000 in
theorem comp_yes {n : Int} (h : isWord n = true) : comp n = 65535 - n := by rw [comp, if_pos h]
set_option maxRecDepth 100000 in
theorem comp_no {n : Int} (h : isWord n = false) : comp n = -1 := by rw [comp, h]; rfl
set_option maxRecDepth 100000 in
theorem comp_word {n : Int} (h : isWord n = true) : isWord (comp n) = true := by
  rw [comp_yes h]
  rw [isWord_iff] at *
  omega
set_option maxRecDepth 100000 in
theorem comp_is (n : Int) : isWord (comp n) = isWord n := by
  cases h : isWord n with
  | true => exact comp_word h
  | false => rw [comp_no h]; rfl

/-- The words of a list of bytes. -/
def wordsL : List UInt8 → List Int
  | [] => []
  | [a] => [256 * (a.toNat : Int)]
  | a :: b :: t => (256 * (a.toNat : Int) + b.toNat) :: wordsL t
set_option maxRecDepth 100000 in
theorem wordsL_length : ∀ l : List UInt8, (wordsL l).length = (l.length + 1) / 2
  | [] => rfl
  | [_] => by simp [wordsL]
  | a :: b :: t => by
    have := wordsL_length t
    simp only [wordsL, List.length_cons, this]
    omega
set_option maxRecDepth 100000 in
theorem wordsL_append : ∀ (l m : List UInt8), l.length % 2 = 0 → wordsL (l ++ m) = wordsL l ++ wordsL m
  | [], _, _ => rfl
  | [_], _, h => by simp at h
  | a :: b :: t, m, h => by
    have := wordsL_append t m (by simp at h; omega)
    simp [wordsL, this]
set_option maxRecDepth 100000 in
theorem wordsL_word : ∀ l : List UInt8, (wordsL l).all isWord = true
  | [] => rfl
  | [a] => by
    have := UInt8.toNat_lt a
    simp [wordsL, isWord]
    omega
  | a :: b :: t => by
    have := wordsL_word t
    have := UInt8.toNat_lt a
    have := UInt8.toNat_lt b
    simp only [wordsL, List.all_cons, Bool.and_eq_true]
    exact ⟨isWord_iff.2 (by omega), by assumption⟩
set_option maxRecDepth 100000 in
theorem wordsL_even (bs : List UInt8) (k : Nat) (h : k < bs.length) (he : k % 2 = 0) : wordsL (bs.take (k + 1)) = wordsL (bs.take k) ++ [256 * (bs[k].toNat : Int)] := by
  rw [take_snoc bs k h, wordsL_append _ _ (by simp; omega)]
  rfl
set_option maxRecDepth 100000 in
theorem wordsL_odd (bs : List UInt8) (k : Nat) (h : k + 1 < bs.length) (he : k % 2 = 0) : wordsL (bs.take (k + 2)) = wordsL (bs.take k) ++ [256 * (bs[k].toNat : Int) + bs[k + 1].toNat] := by
  rw [take_snoc bs (k + 1) h, take_snoc bs k (by omega), List.append_assoc, wordsL_append _ _ (by simp; omega)]
  rfl

/-- What OnesSum answers. -/
def onesSum (bs : List UInt8) : Int := if 2000 < bs.length then -1 else sums 0 (wordsL bs)
set_option maxRecDepth 100000 in
theorem onesSum_range (bs : List UInt8) : -1 ≤ onesSum bs ∧ onesSum bs ≤ 65535 := by
  unfold onesSum
  split
  · omega
  · have := isWord_iff.1 (sums_word (wordsL bs) 0 (by decide) (wordsL_word bs))
    omega
set_option maxRecDepth 100000 in
theorem onesSum_word {bs : List UInt8} (h : bs.length ≤ 2000) : isWord (onesSum bs) = true := by
  rw [onesSum, if_neg (by omega)]
  exact sums_word (wordsL bs) 0 (by decide) (wordsL_word bs)
/-- What Checksum answers. -/
def checksum (bs : List UInt8) : Int := comp (onesSum bs)

/-- What SumSwap answers. -/
def swap (check was is : Int) : Int := comp (folded [comp check, comp was, is])
set_option maxRecDepth 100000 in
theorem swap_yes {check was is : Int} (h1 : isWord check = true) (h2 : isWord was = true) (h3 : isWord is = true) : swap check was is = 65535 - sadd (sadd (65535 - check) (65535 - was)) is := by
  have a1 := comp_word h1
  have a2 := comp_word h2
  have e : folded [comp check, comp was, is] = sadd (sadd (65535 - check) (65535 - was)) is := by
    rw [folded_yes (by simp [a1, a2, h3]), sums, List.foldl_cons, sadd_zero a1, comp_yes h1, comp_yes h2]
    rfl
  rw [swap, e, comp_yes]
  have b1 : isWord (65535 - check) = true := by rw [← comp_yes h1]; exact a1
  have b2 : isWord (65535 - was) = true := by rw [← comp_yes h2]; exact a2
  exact sadd_word (sadd_word b1 b2) h3
set_option maxRecDepth 100000 in
theorem swap_no {check was is : Int} (h : isWord check = false ∨ isWord was = false ∨ isWord is = false) : swap check was is = -1 := by
  have e : folded [comp check, comp was, is] = -1 := by
    rcases h with h | h | h
    · exact folded_no 0 (by simp) (by simpa [comp_is] using h)
    · exact folded_no 1 (by simp) (by simpa [comp_is] using h)
    · exact folded_no 2 (by simp) (by simpa using h)
  rw [swap, e]
  rfl
set_option maxRecDepth 100000 in
theorem swap_word {check was is : Int} (h1 : isWord check = true) (h2 : isWord was = true) (h3 : isWord is = true) : isWord (swap check was is) = true := by
  have a1 := comp_word h1
  have a2 := comp_word h2
  rw [swap]
  refine comp_word ?_
  rw [folded_yes (by simp [a1, a2, h3])]
  exact sums_word _ 0 (by decide) (by simp [a1, a2, h3])

/-- The words that SumSwaps folds. -/
def swapWords : List Int → List Int → List Int
  | a :: as_, b :: bs => comp a :: b :: swapWords as_ bs
  | _, _ => []
set_option maxRecDepth 100000 in
theorem swapWords_snoc : ∀ (as_ bs : List Int) (a b : Int), as_.length = bs.length → swapWords (as_ ++ [a]) (bs ++ [b]) = swapWords as_ bs ++ [comp a, b]
  | [], [], _, _, _ => rfl
  | [], _ :: _, _, _, h => by simp at h
  | _ :: _, [], _, _, h => by simp at h
  | x :: as_, y :: bs, a, b, h => by
    have := swapWords_snoc as_ bs a b (by simpa using h)
    simp [swapWords, this]
set_option maxRecDepth 100000 in
theorem swapWords_length : ∀ (as_ bs : List Int), as_.length = bs.length → (swapWords as_ bs).length = 2 * as_.length
  | [], [], _ => rfl
  | [], _ :: _, h => by simp at h
  | _ :: _, [], h => by simp at h
  | x :: as_, y :: bs, h => by
    have := swapWords_length as_ bs (by simpa using h)
    simp only [swapWords, List.length_cons, this]
    omega
set_option maxRecDepth 100000 in
theorem swapWords_all : ∀ (as_ bs : List Int), as_.length = bs.length → ((swapWords as_ bs).all isWord = true ↔ as_.all isWord = true ∧ bs.all isWord = true)
  | [], [], _ => by simp [swapWords]
  | [], _ :: _, h => by simp at h
  | _ :: _, [], h => by simp at h
  | x :: as_, y :: bs, h => by
    have := swapWords_all as_ bs (by simpa using h)
    simp only [swapWords, List.all_cons, Bool.and_eq_true, comp_is, this]
    constructor
    · rintro ⟨a, b, c, d⟩; exact ⟨⟨a, c⟩, b, d⟩
    · rintro ⟨⟨a, c⟩, b, d⟩; exact ⟨a, b, c, d⟩

/-- What SumSwaps answers. -/
def swaps (check : Int) (was is : List Int) : Int := if was.length = is.length ∧ was.length ≤ 40 then comp (folded (comp check :: swapWords was is)) else -1

set_option maxRecDepth 100000 in
/-- The model's way: one exchange behind the other. -/
theorem swaps_step (check : Int) (was is : List Int) (a b : Int) (hl : was.length = is.length) (hl2 : was.length + 1 ≤ 40) (hc : isWord check = true) (hw : was.all isWord = true) (hi : is.all isWord = true) (ha : isWord a = true) (hb : isWord b = true) :
    isWord (swaps check was is) = true ∧ swap (swaps check was is) a b = swaps check (was ++ [a]) (is ++ [b]) := by
  have hall : (comp check :: swapWords was is).all isWord = true := by
    simp only [List.all_cons, Bool.and_eq_true, comp_is]
    exact ⟨hc, (swapWords_all was is hl).2 ⟨hw, hi⟩⟩
  have hs := sums_word _ 0 (by decide) hall
  have e1 : swaps check was is = comp (sums 0 (comp check :: swapWords was is)) := by rw [swaps, if_pos ⟨hl, by omega⟩, folded_yes hall]
  have w1 : isWord (swaps check was is) = true := by rw [e1]; exact comp_word hs
  refine ⟨w1, ?_⟩
  have e0 : swaps check (was ++ [a]) (is ++ [b]) = comp (folded (comp check :: (swapWords was is ++ [comp a, b]))) := by
    rw [swaps, if_pos ⟨by simp [hl], by rw [List.length_append]; exact hl2⟩, swapWords_snoc was is a b hl]
  rw [swap_yes w1 ha hb, e0]
  have hall2 : (comp check :: (swapWords was is ++ [comp a, b])).all isWord = true := by
    simp only [List.all_cons, List.all_append, List.all_nil, Bool.and_eq_true, comp_is]
    simp only [List.all_cons, Bool.and_eq_true, comp_is] at hall
    exact ⟨hall.1, hall.2, ha, hb, trivial⟩
  rw [folded_yes hall2, ← List.cons_append, sums_append, e1, comp_yes hs, comp_yes ha]
  have e2 : sums (sums 0 (comp check :: swapWords was is)) [65535 - a, b] = sadd (sadd (sums 0 (comp check :: swapWords was is)) (65535 - a)) b := rfl
  have ha2 := comp_word ha
  rw [comp_yes ha] at ha2
  rw [e2, comp_yes (sadd_word (sadd_word hs ha2) hb)]
  rw [show (65535 : Int) - (65535 - sums 0 (comp check :: swapWords was is)) = sums 0 (comp check :: swapWords was is) by omega]

set_option maxRecDepth 100000 in
theorem swaps_no {check : Int} {was is : List Int} (h : ¬ (was.length = is.length ∧ was.length ≤ 40)) : swaps check was is = -1 := by rw [swaps, if_neg h]
set_option maxRecDepth 100000 in
theorem swaps_bad {check : Int} {was is : List Int} (hl : was.length = is.length) (h : isWord check = false ∨ was.all isWord = false ∨ is.all isWord = false) : swaps check was is = -1 := by
  rw [swaps]
  split
  · have : (comp check :: swapWords was is).all isWord = false := by
      rw [Bool.eq_false_iff]
      intro ha
      simp only [List.all_cons, Bool.and_eq_true, comp_is] at ha
      have h2 := (swapWords_all was is hl).1 ha.2
      rcases h with h | h | h
      · simp [h] at ha
      · simp [h] at h2
      · simp [h] at h2
    rw [folded, this]
    rfl
  · rfl
set_option maxRecDepth 100000 in
theorem swaps_nil (check : Int) (h : isWord check = true) : swaps check [] [] = check := by
  have a1 := comp_word h
  have hr := isWord_iff.1 h
  have e : folded (comp check :: swapWords [] []) = 65535 - check := by
    rw [folded_yes (by simp [swapWords, a1]), sums, List.foldl_cons, sadd_zero a1, comp_yes h]
    rfl
  rw [swaps, if_pos (by simp), e, comp_yes (isWord_iff.2 (by omega))]
  omega
end Go.Proofs.YtckakpcjbndijabDoor
namespace Go.Proofs.YtckakpcjbndijabDoor
open Go.RowKit

/-- Parts with one byte between them. -/
def joinC (c : UInt8) (xs : List (List UInt8)) : List UInt8 := [c].intercalate xs
set_option maxRecDepth 100000 in
theorem joinC_nil (c : UInt8) : joinC c [] = [] := rfl
set_option maxRecDepth 100000 in
theorem joinC_one (c : UInt8) (x : List UInt8) : joinC c [x] = x := by simp [joinC, List.intercalate]
set_option maxRecDepth 100000 in
theorem joinC_cons (c : UInt8) (x y : List UInt8) (l : List (List UInt8)) : joinC c (x :: y :: l) = x ++ c :: joinC c (y :: l) := by simp [joinC, List.intercalate]
set_option maxRecDepth 100000 in
theorem joinC_snoc (c : UInt8) (x : List UInt8) : ∀ xs : List (List UInt8), xs ≠ [] → joinC c (xs ++ [x]) = joinC c xs ++ c :: x := by
  intro xs
  induction xs with
  | nil => intro h; exact absurd rfl h
  | cons y ys ih =>
    intro _
    cases ys with
    | nil => rw [List.singleton_append, joinC_cons, joinC_one, joinC_one]
    | cons z zs => rw [List.cons_append, List.cons_append, joinC_cons, joinC_cons, ← List.cons_append, ih (by simp), List.append_assoc, List.cons_append]

/-- Hexadecimal text without leading zeros. -/
def hexN (n : Nat) : List UInt8 := if _h : n < 16 then [hexDig n] else hexN (n / 16) ++ [hexDig (n % 16)]
termination_by n
decreasing_by omega
set_option maxRecDepth 100000 in
theorem hexN_small (n : Nat) (h : n < 16) : hexN n = [hexDig n] := by rw [hexN, dif_pos h]
set_option maxRecDepth 100000 in
theorem hexN_big (n : Nat) (h : ¬ n < 16) : hexN n = hexN (n / 16) ++ [hexDig (n % 16)] := by rw [hexN, dif_neg h]
set_option maxRecDepth 100000 in
theorem hexN_len : ∀ k n : Nat, n < 16 ^ (k + 1) → (hexN n).length ≤ k + 1 := by
  intro k
  induction k with
  | zero => intro n h; rw [hexN_small n (by simpa using h)]; simp
  | succ k ih =>
    intro n h
    by_cases h16 : n < 16
    · rw [hexN_small n h16]; simp
    · rw [hexN_big n h16, List.length_append]
      have := ih (n / 16) (by rw [Nat.pow_succ] at h; omega)
      simp
      omega

def numB (b : UInt8) : List UInt8 := numText (b.toNat : Int)
def hexW (n : Int) : List UInt8 := hexN n.toNat
def text4 (bs : List UInt8) : List UInt8 := joinC 46 (bs.map numB)
def text6 (bs : List UInt8) : List UInt8 := joinC 58 ((wordsL bs).map hexW)
/-- The text of an address. -/
def Ad.text (x : Ad) : List UInt8 := if x.ok then (if x.k = 4 then text4 (put32 x.d) else text6 x.whole) else []

set_option maxRecDepth 100000 in
theorem numB_len (b : UInt8) : (numB b).length ≤ 3 := by
  have hb := UInt8.toNat_lt b
  have h := dec_len 3 b.toNat (by omega)
  unfold numB numText
  split
  · simp
  · rw [if_neg (by omega)]
    simpa using h
set_option maxRecDepth 100000 in
theorem hexW_len (n : Int) (h : n ≤ 65535) : (hexW n).length ≤ 4 := hexN_len 3 n.toNat (by omega)
set_option maxRecDepth 100000 in
theorem joinC_len (c : UInt8) (m : Nat) : ∀ xs : List (List UInt8), (∀ x ∈ xs, x.length ≤ m) → (joinC c xs).length ≤ xs.length * (m + 1) := by
  intro xs
  induction xs with
  | nil => intro _; simp [joinC_nil]
  | cons x ys ih =>
    intro h
    have hx := h x (by simp)
    cases ys with
    | nil => rw [joinC_one]; simp; omega
    | cons y zs =>
      have := ih (fun z hz => h z (by simp [hz]))
      rw [joinC_cons, List.length_append, List.length_cons]
      simp only [List.length_cons] at this ⊢
      have e : (zs.length + 1 + 1) * (m + 1) = (zs.length + 1) * (m + 1) + (m + 1) := by rw [Nat.add_mul (zs.length + 1) 1, Nat.one_mul]
      omega
set_option maxRecDepth 100000 in
theorem wordsL_pair (bs : List UInt8) (i : Nat) (h : 2 * i + 1 < bs.length) : (wordsL bs)[i]? = some (256 * (bs[2 * i].toNat : Int) + bs[2 * i + 1].toNat) := by
  induction i generalizing bs with
  | zero =>
    match bs, h with
    | a :: b :: l, _ => simp [wordsL]
  | succ i ih =>
    match bs, h with
    | a :: b :: l, h =>
      have h' : 2 * i + 1 < l.length := by simp at h; omega
      have := ih l h'
      simp only [wordsL, List.getElem?_cons_succ, this]
      congr 1
set_option maxRecDepth 100000 in
theorem wordsL_le (bs : List UInt8) (i : Nat) (n : Int) (h : (wordsL bs)[i]? = some n) : 0 ≤ n ∧ n ≤ 65535 := by
  have hm := List.mem_of_getElem? h
  have := List.all_eq_true.1 (wordsL_word bs) n hm
  exact isWord_iff.1 this
end Go.Proofs.YtckakpcjbndijabDoor
namespace Go.Proofs.YtckakpcjbndijabDoor
open Go.RowKit

set_option maxRecDepth 100000 in
/-- The cells of a block that was made and not written since. -/
theorem box_cell {w w' : World} {cs : Array Value} {t : TypeId} (b : Below (w.alloc (.cells cs t)).heap.size (w.alloc (.cells cs t)) w') (j : Nat) (v : Value) (h : cs[j]? = some v) : w'.cell? ⟨w.heap.size, j, none⟩ = some v := by
  rw [b.cell (p := ⟨w.heap.size, j, none⟩) (by simp)]
  simp [go_sem, h]

set_option maxRecDepth 100000 in
theorem ad_box {w w' : World} {x : Ad} {t : TypeId} (b : Below (w.alloc (.cells #[.int .i64 x.k, .int .i64 x.a, .int .i64 x.b, .int .i64 x.c, .int .i64 x.d] t)).heap.size (w.alloc (.cells #[.int .i64 x.k, .int .i64 x.a, .int .i64 x.b, .int .i64 x.c, .int .i64 x.d] t)) w') :
    w'.cell? ⟨w.heap.size, 0, none⟩ = some (.int .i64 x.k) ∧ w'.cell? ⟨w.heap.size, 1, none⟩ = some (.int .i64 x.a) ∧ w'.cell? ⟨w.heap.size, 2, none⟩ = some (.int .i64 x.b) ∧ w'.cell? ⟨w.heap.size, 3, none⟩ = some (.int .i64 x.c) ∧ w'.cell? ⟨w.heap.size, 4, none⟩ = some (.int .i64 x.d) :=
  ⟨box_cell b 0 _ rfl, box_cell b 1 _ rfl, box_cell b 2 _ rfl, box_cell b 3 _ rfl, box_cell b 4 _ rfl⟩

set_option maxRecDepth 100000 in
theorem pf_box {w w' : World} {p : Pf} {t : TypeId} (b : Below (w.alloc (.cells #[.int .i64 p.base.k, .int .i64 p.base.a, .int .i64 p.base.b, .int .i64 p.base.c, .int .i64 p.base.d, .int .i64 p.len] t)).heap.size (w.alloc (.cells #[.int .i64 p.base.k, .int .i64 p.base.a, .int .i64 p.base.b, .int .i64 p.base.c, .int .i64 p.base.d, .int .i64 p.len] t)) w') :
    w'.cell? ⟨w.heap.size, 0, none⟩ = some (.int .i64 p.base.k) ∧ w'.cell? ⟨w.heap.size, 1, none⟩ = some (.int .i64 p.base.a) ∧ w'.cell? ⟨w.heap.size, 2, none⟩ = some (.int .i64 p.base.b) ∧ w'.cell? ⟨w.heap.size, 3, none⟩ = some (.int .i64 p.base.c) ∧ w'.cell? ⟨w.heap.size, 4, none⟩ = some (.int .i64 p.base.d) ∧
      w'.cell? ⟨w.heap.size, 5, none⟩ = some (.int .i64 p.len) :=
  ⟨box_cell b 0 _ rfl, box_cell b 1 _ rfl, box_cell b 2 _ rfl, box_cell b 3 _ rfl, box_cell b 4 _ rfl, box_cell b 5 _ rfl⟩

set_option maxRecDepth 100000 in
set_option maxHeartbeats 400000 in
theorem toAddrC (x : Ad) (w : World) :
    Calls Tryd.prog 10 #[.agg #[.int .i64 x.k, .int .i64 x.a, .int .i64 x.b, .int .i64 x.c, .int .i64 x.d]] w fun e w' => e = .returned (.agg #[.int .i64 x.k, .int .i64 x.a, .int .i64 x.b, .int .i64 x.c, .int .i64 x.d]) ∧ Below w.heap.size w w' := by
  go_enter Tryd.func10, Tryd.ntmps10
  go_wp2
  go_returns
  exact ⟨rfl, by go_grown⟩

set_option maxRecDepth 100000 in
set_option maxHeartbeats 400000 in
theorem toPrefixC (p : Pf) (w : World) :
    Calls Tryd.prog 16 #[.agg #[.int .i64 p.base.k, .int .i64 p.base.a, .int .i64 p.base.b, .int .i64 p.base.c, .int .i64 p.base.d, .int .i64 p.len]] w fun e w' => e = .returned (.agg #[.int .i64 p.base.k, .int .i64 p.base.a, .int .i64 p.base.b, .int .i64 p.base.c, .int .i64 p.base.d, .int .i64 p.len]) ∧ Below w.heap.size w w' := by
  go_enter Tryd.func16, Tryd.ntmps16
  go_wp2
  go_returns
  exact ⟨rfl, by go_grown⟩

set_option maxRecDepth 100000 in
set_option maxHeartbeats 400000 in
theorem eqAddrC (x : Ad) (w : World) :
    Calls Tryd.prog 14 #[.agg #[.int .i64 x.k, .int .i64 x.a, .int .i64 x.b, .int .i64 x.c, .int .i64 x.d], .agg #[.int .i64 x.k, .int .i64 x.a, .int .i64 x.b, .int .i64 x.c, .int .i64 x.d]] w fun e w' => e = .returned (.bool true) ∧ Below w.heap.size w w' := by
  go_enter Tryd.func14, Tryd.ntmps14
  go_wp2
  go_returns
  exact ⟨rfl, by go_grown⟩

set_option maxRecDepth 100000 in
set_option maxHeartbeats 400000 in
theorem eqPrefixC (p : Pf) (w : World) :
    Calls Tryd.prog 20 #[.agg #[.int .i64 p.base.k, .int .i64 p.base.a, .int .i64 p.base.b, .int .i64 p.base.c, .int .i64 p.base.d, .int .i64 p.len], .agg #[.int .i64 p.base.k, .int .i64 p.base.a, .int .i64 p.base.b, .int .i64 p.base.c, .int .i64 p.base.d, .int .i64 p.len]] w fun e w' => e = .returned (.bool true) ∧ Below w.heap.size w w' := by
  go_enter Tryd.func20, Tryd.ntmps20
  go_wp2
  go_returns
  exact ⟨rfl, by go_grown⟩

set_option maxRecDepth 100000 in
set_option maxHeartbeats 400000 in
theorem specHalf (n : Int) (w : World) : Calls Tryd.prog 49 #[.int .i64 n] w fun e w' => e = .returned (.bool (half n)) ∧ w = w' := by
  go_enter Tryd.func49, Tryd.ntmps49
  go_wp2
  · go_ret
    exact ⟨ret_bool (by simp [half]; omega), rfl⟩
  · go_ret
    exact ⟨ret_bool (by simp [half]; omega), rfl⟩

set_option maxRecDepth 100000 in
set_option maxHeartbeats 400000 in
theorem partOkC (n : Int) (w : World) : Calls Tryd.prog 78 #[.int .i64 n] w fun e w' => e = .returned (.bool (half n)) ∧ w = w' := by
  by_cases h : 0 ≤ n ∧ n ≤ 4294967295
  · have hh := Lib.hid ((half_iff n).2 h)
    obtain ⟨h1, h2⟩ := h
    go_enter Tryd.func78, Tryd.ntmps78
    go_wp2_with (go_at_call 70; refine (within_yes _ _ _ _ h1 h2).mono ?_; rintro e w' ⟨rfl, rfl⟩)
    go_ret
    exact ⟨ret_bool hh.out.symm, rfl⟩
  · have hh := Lib.hid (show half n = false by simp [half]; omega)
    have h3 := Lib.hid (show n < 0 ∨ 4294967295 < n by omega)
    clear h
    go_enter Tryd.func78, Tryd.ntmps78
    go_wp2_with (go_at_call 70; refine (within_no _ _ _ _ h3.out).mono ?_; rintro e w' ⟨rfl, rfl⟩)
    go_ret
    exact ⟨ret_bool hh.out.symm, rfl⟩

set_option maxRecDepth 100000 in
set_option maxHeartbeats 400000 in
theorem bitsOfC (k : Int) (h : k = 4 ∨ k = 6) (w : World) : Calls Tryd.prog 52 #[.int .i64 k] w fun e w' => e = .returned (.int .i64 (if k = 4 then 32 else 128)) ∧ w = w' := by
  rcases h with rfl | rfl
  · go_enter Tryd.func52, Tryd.ntmps52
    go_wp2
    go_ret
    exact ⟨rfl, rfl⟩
  · go_enter Tryd.func52, Tryd.ntmps52
    go_wp2
    go_ret
    exact ⟨rfl, rfl⟩

set_option maxRecDepth 100000 in
set_option maxHeartbeats 400000 in
theorem specBits (x : Ad) (w : World) : Calls Tryd.prog 55 #[.agg #[.int .i64 x.k, .int .i64 x.a, .int .i64 x.b, .int .i64 x.c, .int .i64 x.d]] w fun e w' => e = .returned (.int .i64 x.bits) ∧ Below w.heap.size w w' := by
  by_cases h : x.k = 4
  · go_enter Tryd.func55, Tryd.ntmps55
    go_wp2
    go_ret
    exact ⟨ret_int (by simp [Ad.bits, h]), by go_grown⟩
  · go_enter Tryd.func55, Tryd.ntmps55
    go_wp2
    go_ret
    exact ⟨ret_int (by simp [Ad.bits, h]), by go_grown⟩

set_option maxRecDepth 100000 in
set_option maxHeartbeats 1000000 in
theorem specAddrOk (x : Ad) (w : World) : Calls Tryd.prog 23 #[.agg #[.int .i64 x.k, .int .i64 x.a, .int .i64 x.b, .int .i64 x.c, .int .i64 x.d]] w fun e w' => e = .returned (.bool x.ok) ∧ Below w.heap.size w w' := by
  by_cases h : x.k = 4
  · go_enter Tryd.func23, Tryd.ntmps23
    go_wp2_with (go_at_call 49; refine (specHalf _ _).mono ?_; rintro e w' ⟨rfl, rfl⟩)
    all_goals (go_ret; exact ⟨ret_bool (by simp [Ad.ok, *]), by go_grown⟩)
  · go_enter Tryd.func23, Tryd.ntmps23
    go_wp2_with (go_at_call 49; refine (specHalf _ _).mono ?_; rintro e w' ⟨rfl, rfl⟩)
    all_goals (go_ret; exact ⟨ret_bool (by simp [Ad.ok, *]), by go_grown⟩)

set_option maxRecDepth 100000 in
set_option maxHeartbeats 1000000 in
theorem implAddrOk (x : Ad) (w : World) : Calls Tryd.prog 50 #[.agg #[.int .i64 x.k, .int .i64 x.a, .int .i64 x.b, .int .i64 x.c, .int .i64 x.d]] w fun e w' => e = .returned (.bool x.ok) ∧ Below w.heap.size w w' := by
  by_cases h : x.k = 4
  · go_enter Tryd.func50, Tryd.ntmps50
    go_wp2_with (go_at_call 78; refine (partOkC _ _).mono ?_; rintro e w' ⟨rfl, rfl⟩)
    all_goals (go_ret; exact ⟨ret_bool (by simp [Ad.ok, *]), by go_grown⟩)
  · go_enter Tryd.func50, Tryd.ntmps50
    go_wp2_with (go_at_call 78; refine (partOkC _ _).mono ?_; rintro e w' ⟨rfl, rfl⟩)
    all_goals (go_ret; exact ⟨ret_bool (by simp [Ad.ok, *]), by go_grown⟩)
end Go.Proofs.YtckakpcjbndijabDoor
namespace Go.Proofs.YtckakpcjbndijabDoor
open Go.RowKit

def BytesOut (x : Ad) (w : World) (e : Ending) (w' : World) : Prop := ∃ A c, e = .returned (.slice A x.bytes.length c) ∧ w'.ownsRow w.heap.size 5 1 (.slice A x.bytes.length c) x.bytes.length (cellsOf x.bytes) ∧ Below w.heap.size w w'
set_option maxRecDepth 100000 in
theorem bytesOut_no {x : Ad} (h : x.ok = false) {w w' : World} (hb : Below w.heap.size w w') : BytesOut x w (.returned (.slice none 0 0)) w' := by
  have e : x.bytes = [] := by simp [Ad.bytes, h]
  unfold BytesOut
  rw [e]
  exact ⟨none, 0, rfl, ⟨rfl, .inl ⟨rfl, rfl⟩⟩, hb⟩
set_option maxRecDepth 100000 in
theorem bytesOut_yes {x : Ad} {w w' : World} {A : Option Addr} {n c B : Nat} {bs : List UInt8} (he : x.bytes = bs) (hn : bs.length = n) (ho : w'.ownsRow B 5 1 (.slice A n c) n (cellsOf bs)) (hB : w.heap.size ≤ B) (hb : Below w.heap.size w w') :
    BytesOut x w (.returned (.slice A n c)) w' := by
  unfold BytesOut
  rw [he, hn]
  exact ⟨A, c, rfl, own_base ho hB, hb⟩
set_option maxRecDepth 100000 in
theorem bytes_four {x : Ad} (h : x.ok = true) (hk : x.k = 4) : x.bytes = put32 x.d := by simp [Ad.bytes, h, hk]
set_option maxRecDepth 100000 in
theorem bytes_six {x : Ad} (h : x.ok = true) (hk : x.k = 6) : x.bytes = x.whole := by simp [Ad.bytes, h, hk]

set_option maxRecDepth 100000 in
theorem cell_on {a b : World} {p : Addr} {v : Value} (h : Below a.heap.size a b) (hc : a.cell? p = some v) : b.cell? p = some v := (h.cell (World.block_lt_of_cell? _ _ hc)).trans hc
set_option maxRecDepth 100000 in
theorem undrew {a b : World} (h : Below a.drew.heap.size a.drew b) : Below a.heap.size a b := ⟨h.os, h.tape, h.output, h.size, h.block⟩
set_option maxRecDepth 100000 in
theorem cell_grown {a b : World} {row : Option Nat} {g i : Nat} {v : Value} (h : a.grownBy b row) (hne : ∀ k, row = some k → g < k) (hc : a.cell? ⟨g, i, none⟩ = some v) : b.cell? ⟨g, i, none⟩ = some v :=
  h.cell hc (fun e => by have := hne g e.symm; omega)

set_option maxRecDepth 100000 in
set_option maxHeartbeats 400000 in
theorem specAddrBytes_no (x : Ad) (h : x.ok = false) (w : World) : Calls Tryd.prog 28 #[.agg #[.int .i64 x.k, .int .i64 x.a, .int .i64 x.b, .int .i64 x.c, .int .i64 x.d]] w (BytesOut x w) := by
  have H := Lib.hid h
  clear h
  go_enter Tryd.func28, Tryd.ntmps28
  go_wp2_with fail
  refine (specAddrOk x _).mono ?_
  rintro e w1 ⟨rfl, b1⟩
  have h := H.out
  go_wp2
  go_ret
  exact bytesOut_no H.out (bthen (Joins.below_alloc1 w _) b1)

set_option maxRecDepth 100000 in
set_option maxHeartbeats 400000 in
theorem specAddrBytes_four (x : Ad) (h : x.ok = true) (hk : x.k = 4) (w : World) : Calls Tryd.prog 28 #[.agg #[.int .i64 x.k, .int .i64 x.a, .int .i64 x.b, .int .i64 x.c, .int .i64 x.d]] w (BytesOut x w) := by
  have H := Lib.hid (bytes_four h hk)
  have HH := Lib.hid (And.intro h hk)
  clear h hk
  go_enter Tryd.func28, Tryd.ntmps28
  go_wp2_with fail
  refine (specAddrOk x _).mono ?_
  rintro e w1 ⟨rfl, b1⟩
  obtain ⟨c0, c1, c2, c3, c4⟩ := ad_box b1
  obtain ⟨h, hk⟩ := HH.out
  go_wp2_with fail
  refine (specPut32 x.d _).mono ?_
  rintro e w2 ⟨A, c, rfl, o2, b2⟩
  go_wp2
  go_ret
  have b12 := bthen (Joins.below_alloc1 w _) b1
  exact bytesOut_yes H.out rfl o2 b12.size (bthen b12 b2)

set_option maxRecDepth 100000 in
set_option maxHeartbeats 400000 in
theorem specAddrBytes_six (x : Ad) (h : x.ok = true) (hk : x.k = 6) (w : World) : Calls Tryd.prog 28 #[.agg #[.int .i64 x.k, .int .i64 x.a, .int .i64 x.b, .int .i64 x.c, .int .i64 x.d]] w (BytesOut x w) := by
  have H := Lib.hid (bytes_six h hk)
  have HH := Lib.hid (And.intro h hk)
  clear h hk
  go_enter Tryd.func28, Tryd.ntmps28
  go_wp2_with fail
  refine (specAddrOk x _).mono ?_
  rintro e w1 ⟨rfl, b1⟩
  obtain ⟨c0, c1, c2, c3, c4⟩ := ad_box b1
  have bb := bthen (Joins.below_alloc1 w _) b1
  have hlt : w.heap.size < w1.heap.size := by have := b1.size; simp at this; omega
  clear b1
  obtain ⟨h, hk⟩ := HH.out
  go_wp2_with fail
  go_region_held3 (fun w' => w'.cell? ⟨w.heap.size, 1, none⟩ = some (.int .i64 x.a) ∧ w'.cell? ⟨w.heap.size, 2, none⟩ = some (.int .i64 x.b)) (first | exact ⟨c1, c2⟩ | exact ⟨cell_on b2 c1, cell_on b2 c2⟩ | exact ⟨cell_on b3 (cell_on b2 c1), cell_on b3 (cell_on b2 c2)⟩ | exact ⟨cell_grown hg4 hr4.out (cell_on b3 (cell_on b2 c1)), cell_grown hg4 hr4.out (cell_on b3 (cell_on b2 c2))⟩ | go_keep)
    (first | (go_at_call 57; with_reducible refine (specPut32 x.a _).mono ?_; rintro e w2 ⟨A2, k2, rfl, o2, b2⟩) | (go_at_call 57; with_reducible refine (specPut32 x.b _).mono ?_; rintro e w3 ⟨A3, k3, rfl, o3, b3⟩) | (refine step_append_b (by rfl) (.tmp 15) (.tmp 18) (by rfl) (w.heap.size + 1) (.slice A2 4 k2) (put32 x.a) (by rfl) (own_below (own_base o2 (show w.heap.size + 1 ≤ w1.drew.heap.size from hlt)) b3) _ A3 4 k3 (put32 x.b) (by rfl) rfl (RB.of_own o3) (by simp [put32]) (Nat.le_trans (show w.heap.size + 1 ≤ w1.drew.heap.size from hlt) (Nat.le_trans b2.size b3.size)) ?_; intro v4 w4 o4 hg4 ha4; have hr4 := Lib.hid (show ∀ k, (Value.slice A2 4 k2).ownBlock = some k → w.heap.size < k from fun k hk => Nat.lt_of_lt_of_le (show w.heap.size < w1.drew.heap.size from hlt) (o2.lt k hk).1)))
  obtain ⟨A4, k4, rfl⟩ := own_form o4
  have b4 : Below w.heap.size w w4 := bgrown (bthen bb (bthen (undrew b2) b3)) hg4 (fun k hk => Nat.le_of_lt (hr4.out k hk))
  have lt4 : w.heap.size < w4.heap.size := Nat.lt_of_lt_of_le (Nat.lt_of_lt_of_le hlt (Nat.le_trans b2.size b3.size)) hg4.size
  have d3 := cell_grown hg4 hr4.out (cell_on b3 (cell_on b2 c3))
  have d4 := cell_grown hg4 hr4.out (cell_on b3 (cell_on b2 c4))
  have r4 := Lib.hid (show ∀ k, (Value.slice A4 (put32 x.a ++ put32 x.b).length k4).ownBlock = some k → w.heap.size < k from fun k hk => (o4.lt k hk).1)
  clear c0 c1 c2 c3 c4 o2 o3 b2 b3 ha4 hg4 hr4
  go_wp2_with fail
  go_region_held3 (fun w' => w'.cell? ⟨w.heap.size, 3, none⟩ = some (.int .i64 x.c) ∧ w'.cell? ⟨w.heap.size, 4, none⟩ = some (.int .i64 x.d)) (first | exact ⟨d3, d4⟩ | exact ⟨cell_on b5 d3, cell_on b5 d4⟩ | exact ⟨cell_grown hg6 r4.out (cell_on b5 d3), cell_grown hg6 r4.out (cell_on b5 d4)⟩ | exact ⟨cell_on b7 (cell_grown hg6 r4.out (cell_on b5 d3)), cell_on b7 (cell_grown hg6 r4.out (cell_on b5 d4))⟩ | exact ⟨cell_grown hg8 r6.out (cell_on b7 (cell_grown hg6 r4.out (cell_on b5 d3))), cell_grown hg8 r6.out (cell_on b7 (cell_grown hg6 r4.out (cell_on b5 d4)))⟩ | go_keep)
    (first | (go_at_call 57; with_reducible refine (specPut32 x.c _).mono ?_; rintro e w5 ⟨A5, k5, rfl, o5, b5⟩) | (go_at_call 57; with_reducible refine (specPut32 x.d _).mono ?_; rintro e w7 ⟨A7, k7, rfl, o7, b7⟩) | (refine step_append_b (by rfl) (.tmp 20) (.tmp 23) (by rfl) (w.heap.size + 1) (.slice A4 (put32 x.a ++ put32 x.b).length k4) (put32 x.a ++ put32 x.b) (by rfl) (own_below o4 (undrew b5)) _ A5 4 k5 (put32 x.c) (by rfl) rfl (RB.of_own o5) (by simp [put32]) (Nat.le_trans (show w.heap.size + 1 ≤ w4.drew.heap.size from lt4) b5.size) ?_; intro v6 w6 o6 hg6 ha6; have r6 := Lib.hid (show ∀ k, v6.ownBlock = some k → w.heap.size < k from fun k hk => (o6.lt k hk).1)) | (refine step_append_b (by rfl) (.tmp 24) (.tmp 27) (by rfl) (w.heap.size + 1) v6 ((put32 x.a ++ put32 x.b) ++ put32 x.c) (by rfl) (own_below o6 b7) _ A7 4 k7 (put32 x.d) (by rfl) rfl (RB.of_own o7) (by simp [put32]) (Nat.le_trans (Nat.le_trans (Nat.le_trans (show w.heap.size + 1 ≤ w4.drew.heap.size from lt4) b5.size) hg6.size) b7.size) ?_; intro v8 w8 o8 hg8 ha8))
  obtain ⟨A8, k8, rfl⟩ := own_form o8
  go_wp2
  go_ret
  exact bytesOut_yes H.out rfl o8 (by omega) (bgrown (bthen (bgrown (bthen b4 (undrew b5)) hg6 (fun k hk => Nat.le_of_lt (r4.out k hk))) b7) hg8 (fun k hk => Nat.le_of_lt (r6.out k hk)))

set_option maxRecDepth 100000 in
theorem specAddrBytes (x : Ad) (w : World) : Calls Tryd.prog 28 #[.agg #[.int .i64 x.k, .int .i64 x.a, .int .i64 x.b, .int .i64 x.c, .int .i64 x.d]] w (BytesOut x w) := by
  cases h : x.ok
  · exact specAddrBytes_no x h w
  · rcases x.ok_kind h with hk | hk
    · exact specAddrBytes_four x h hk w
    · exact specAddrBytes_six x h hk w
end Go.Proofs.YtckakpcjbndijabDoor
namespace Go.Proofs.YtckakpcjbndijabDoor
open Go.RowKit

def Ad.part (x : Ad) (i : Nat) : Int := match i with | 0 => x.a | 1 => x.b | 2 => x.c | _ => x.d
def Ad.fill (x : Ad) (i : Nat) : List UInt8 := x.whole.take (4 * i) ++ List.replicate (16 - 4 * i) 0
set_option maxRecDepth 100000 in
theorem four_cases {i : Nat} (h : i < 4) : i = 0 ∨ i = 1 ∨ i = 2 ∨ i = 3 := by omega
set_option maxRecDepth 100000 in
theorem index_part (x : Ad) (i : Nat) (h : i < 4) (w : World) :
    (Instr.index 97 (.agg #[.int .i64 x.a, .int .i64 x.b, .int .i64 x.c, .int .i64 x.d]) (.int .i64 (i : Int))).run Tryd.prog w = .ok (.int .i64 (x.part i)) w := by
  rcases four_cases h with rfl | rfl | rfl | rfl <;> rfl
set_option maxRecDepth 100000 in
theorem fill_splice (x : Ad) (i : Nat) (h : i < 4) : splice (cellsOf (x.fill i)) (4 * i) (cellsOf (put32 (x.part i))) = cellsOf (x.fill (i + 1)) := by
  rcases four_cases h with rfl | rfl | rfl | rfl <;> simp [splice, Ad.fill, Ad.whole, put32, cellsOf, Ad.part]
set_option maxRecDepth 100000 in
theorem fill_length (x : Ad) (i : Nat) (h : i ≤ 4) : (x.fill i).length = 16 := by
  simp [Ad.fill, Ad.whole_length]
  omega
set_option maxRecDepth 100000 in
theorem fill_end (x : Ad) : x.fill 4 = x.whole := by simp [Ad.fill, Ad.whole, put32]
set_option maxRecDepth 100000 in
theorem info_arr : (Tryd.prog.info? 68).map (·.size) = some 16 := by kernel_rfl
set_option maxRecDepth 100000 in
theorem info_u8s : (Tryd.prog.info? 5).map (·.size) = some 1 := by kernel_rfl

set_option maxRecDepth 100000 in
theorem slice_arr (g m : Nat) (h : m < 16) (w : World) : (Instr.sliceAt 68 (.pointer (some ⟨g, 0, none⟩)) (some (.int .i64 (m : Int))) none none).run Tryd.prog w = .ok (.slice (some ⟨g, m, none⟩) (16 - m) (16 - m)) w := by
  obtain ⟨i0, hi0, hz0, hz1, hz2⟩ := info_parts info_u8
  have e : Tryd.prog.elem 68 = 5 := by kernel_rfl
  have el : Tryd.prog.arrayLen 68 = 16 := by kernel_rfl
  rw [run_sliceAt_array_l w _ _ (by kernel_rfl) .i64 (m : Int) (by omega) (by rw [el]; omega)]
  simp [e, el, sizeOf, typeInfo, hi0, slicedAt, hz1, addr_add]
  omega
set_option maxRecDepth 100000 in
theorem row_on {a b : World} {B g : Nat} {o : Obj} (h : Below B a b) (hg : g < B) (hr : a.heap[g]? = some o) : b.heap[g]? = some o := (h.block g hg).trans hr
set_option maxRecDepth 100000 in
theorem row_lt {a : World} {g : Nat} {o : Obj} (h : a.heap[g]? = some o) : g < a.heap.size := (Array.getElem?_eq_some_iff.1 h).1

set_option maxRecDepth 100000 in
theorem row_new2 (w : World) (a b c : Obj) : (((w.alloc a).alloc b).alloc c).heap[w.heap.size + 1]? = some b := by
  have h := heap_alloc_new (w.alloc a) b
  have e : (w.alloc a).heap.size = w.heap.size + 1 := by simp
  have e2 : ((w.alloc a).alloc b).heap.size = w.heap.size + 1 + 1 := by simp
  rw [e] at h
  exact (Go.heap_alloc_old ((w.alloc a).alloc b) c (by omega)).trans h
set_option maxRecDepth 100000 in
theorem row_new3 (w : World) (a b c : Obj) : (((w.alloc a).alloc b).alloc c).heap[w.heap.size + 1 + 1]? = some c := by
  have h := heap_alloc_new ((w.alloc a).alloc b) c
  have e2 : ((w.alloc a).alloc b).heap.size = w.heap.size + 1 + 1 := by simp
  rwa [e2] at h
set_option maxRecDepth 100000 in
theorem own_src {w : World} {base : Nat} {e : TypeId} {g n c : Nat} {xs : List Value} (h : w.ownsRow base e 1 (.slice (some ⟨g, 0, none⟩) n c) n xs) : ∀ j v, xs[j]? = some v → w.cell? ((⟨g, 0, none⟩ : Addr).add j) = some v := by
  intro j v hv
  have hl := h.1
  have hj : j < xs.length := by
    rcases Nat.lt_or_ge j xs.length with hj | hj
    · exact hj
    · rw [List.getElem?_eq_none hj] at hv; cases hv
  rw [addr_add, Nat.zero_add, h.cellAt j (by omega)]
  exact hv
set_option maxRecDepth 100000 in
theorem cells_size (bs : List UInt8) : (cellsOf bs).toArray.size = bs.length := by simp [cellsOf]
set_option maxRecDepth 100000 in
theorem store_cells (w : World) (g : Nat) (t : TypeId) (old : Array Value) (bs : List UInt8) (hg : w.heap[g]? = some (.cells old t (0, 0))) (hl : old.size = bs.length) :
    (storeCells ⟨g, 0, none⟩ (cellsOf bs)).run Tryd.prog w = .ok () (w.setRow g (cellsOf bs).toArray) := by
  have := run_storeCells_from (P := Tryd.prog) g t (cellsOf bs) 0 old w hg (by rw [cellsOf_length]; omega) (cellsOf_one bs)
  simpa using this
set_option maxRecDepth 100000 in
theorem cells_all (bs : List UInt8) : (cellsOf bs).toArray.all (·.oneCell') = true := by
  rw [Array.all_eq_true_iff_forall_mem]
  intro v hv
  exact cellsOf_one bs v (by simpa using hv)

set_option maxRecDepth 100000 in
set_option maxHeartbeats 400000 in
theorem packedC (x : Ad) (w : World) : Calls Tryd.prog 51 #[.agg #[.int .i64 x.k, .int .i64 x.a, .int .i64 x.b, .int .i64 x.c, .int .i64 x.d]] w fun e w' => e = .returned (.agg (cellsOf x.whole).toArray) ∧ Below w.heap.size w w' := by
  go_enter Tryd.func51, Tryd.ntmps51
  go_wp2_with fail
  go_loopw [15] (fun s wr => ∃ i : Nat, i ≤ 4 ∧ s = .int .i64 i ∧ wr.heap[w.heap.size + 1]? = some (.cells (cellsOf (List.replicate 16 0)).toArray 68 (0, 0)) ∧ wr.heap[w.heap.size + 1 + 1]? = some (.cells (cellsOf (x.fill i)).toArray 68 (0, 0)) ∧ Below w.heap.size w wr) (fun s _ => 4 - (intOf s).toNat)
  case atStart =>
    refine ⟨0, by omega, rfl, ?_, ?_, by go_grown⟩
    · exact row_new2 w _ _ _
    · exact row_new3 w _ _ _
  case round =>
    obtain ⟨i, hi, rfl, h1, h2, hb⟩ := hrel
    by_cases hlt : i < 4
    · have hidx := index_part x i hlt
      obtain ⟨y, hy⟩ : ∃ y, y = x.part i := ⟨_, rfl⟩
      rw [← hy] at hidx
      have HY := Lib.hid hy
      have H1 := Lib.hid h1
      have H2 := Lib.hid h2
      clear hy h1 h2
      obtain ⟨m, hm⟩ : ∃ m : Nat, m = 4 * i := ⟨_, rfl⟩
      have hm16 : m < 16 := by omega
      have hm12 : m ≤ 12 := by omega
      have hw : IntKind.i64.wrap (4 * (i : Int)) = (m : Int) := by rw [IntKind.wrap_i64]; omega
      have hsl := slice_arr (w.heap.size + 1 + 1) m hm16
      have HM := Lib.hid hm
      have hl : w.heap.size + 1 + 1 < wr.heap.size := row_lt H2.out
      clear hm
      go_wp2_with fail
      go_region_law (first | (go_simp; go_at_call 79; refine (implPut32 y _).mono ?_; rintro e w2 ⟨rfl, o2, b2⟩) | (refine step_copy_splice (by rfl) (.tmp 21) (.tmp 23) 42 42 (by rfl) 5 Tryd.underlying42 info_u8s (some ⟨w.heap.size + 1 + 1, m, none⟩) _ (16 - m) (16 - m) 4 4 (by rfl) (by rfl) (w.heap.size + 1 + 1) m (cellsOf (x.fill i)) 68 (row_on b2 (row_lt H2.out) H2.out) (cellsOf (put32 y)) (by rw [cellsOf_length, put32_length]; exact (Nat.min_eq_left (by omega)).symm) (fun _ => ⟨rfl, _, rfl, own_src o2⟩) (by rw [cellsOf_length, cellsOf_length, put32_length, fill_length x i hi]; omega) (cellsOf_one _) (w.heap.size + 1 + 1) wr ((undrew b2).mono (Nat.le_of_lt hl)) (Nat.le_refl _) ?_; intro w4 hg4 hb4))
      go_wp2
      go_roundw
      case rel =>
        refine ⟨i + 1, by omega, by go_num, row_on hb4 (by omega) H1.out, ?_, hb.trans (hb4.mono (by omega))⟩
        rw [← fill_splice x i hlt, ← HM.out, ← HY.out]
        exact hg4.out
      case measure => simp [intOf]; omega
    · obtain rfl : i = 4 := by omega
      rw [fill_end] at h2
      have H1 := Lib.hid h1
      have H2 := Lib.hid h2
      clear h1 h2
      have hs16 := cells_size x.whole
      rw [x.whole_length] at hs16
      have HS := Lib.hid hs16
      clear hs16
      have hst := store_cells wr (w.heap.size + 1) 68 _ x.whole H1.out (by rw [x.whole_length]; rfl)
      go_wp2_with (with_reducible refine wpList_load_row rfl 68 (.tmp 3) rfl (w.heap.size + 1 + 1) rfl 68 (cellsOf x.whole).toArray (0, 0) _ H2.out Tryd.underlying68 rfl (by rw [HS.out]; exact info_arr) ?_)
      (try simp only [Exit.inBlock, Exit.then])
      refine bodyPost_ret (v := .agg (cellsOf x.whole).toArray) ?_ rfl ⟨rfl, below_setRow hb (by omega) _⟩
      exact results_cell_row rfl _ _ (w.heap.size + 1) 68 (cellsOf x.whole).toArray (0, 0) _ rfl (setRow_heap _ _ _ _ _ _ H1.out) Tryd.underlying68 rfl (by rw [HS.out]; exact info_arr)
end Go.Proofs.YtckakpcjbndijabDoor
namespace Go.Proofs.YtckakpcjbndijabDoor
open Go.RowKit

set_option maxRecDepth 100000 in
set_option maxHeartbeats 400000 in
theorem unpackedC (k : Int) (bs : List UInt8) (hl : bs.length = 16) (w : World) : Calls Tryd.prog 53 #[.int .i64 k, .agg (cellsOf bs).toArray] w fun e w' => e = .returned (.agg #[.int .i64 (unw k bs).k, .int .i64 (unw k bs).a, .int .i64 (unw k bs).b, .int .i64 (unw k bs).c, .int .i64 (unw k bs).d]) ∧ Below w.heap.size w w' := by
  have hrb : ∀ o1 o2, RB (((w.alloc (.cells (cellsOf bs).toArray 68)).alloc o1).alloc o2) (((w.alloc (.cells (cellsOf bs).toArray 68)).alloc o1).alloc o2).heap.size (some ⟨w.heap.size, 0, none⟩) bs := by
    intro o1 o2
    refine ((RB.new w 68 bs).below ?_).more ?_
    · exact ((Below.refl _ _).alloc (by simp) _).alloc (by simp) _
    · simp
  have HL := Lib.hid hl
  clear hl
  go_enter Tryd.func53, Tryd.ntmps53
  go_wp2_with fail
  refine wp_loop_rounds 5 ?_
  rw [rounds_succ]
  go_wp2_with (go_at_call 80; refine (implBe32 _ 16 16 bs 0 _ (hrb _ _) HL.out (by omega) (by omega) (by omega)).mono ?_; rintro e w' ⟨rfl, rfl⟩)
  rw [rounds_succ]
  go_wp2_with (go_at_call 80; refine (implBe32 _ 16 16 bs 4 _ (hrb _ _) HL.out (by omega) (by omega) (by omega)).mono ?_; rintro e w' ⟨rfl, rfl⟩)
  rw [rounds_succ]
  go_wp2_with (go_at_call 80; refine (implBe32 _ 16 16 bs 8 _ (hrb _ _) HL.out (by omega) (by omega) (by omega)).mono ?_; rintro e w' ⟨rfl, rfl⟩)
  rw [rounds_succ]
  go_wp2_with (go_at_call 80; refine (implBe32 _ 16 16 bs 12 _ (hrb _ _) HL.out (by omega) (by omega) (by omega)).mono ?_; rintro e w' ⟨rfl, rfl⟩)
  rw [rounds_succ]
  go_wp2
  go_returns
  exact ⟨rfl, by go_grown⟩

set_option maxRecDepth 100000 in
theorem bits_is (x : Ad) (h : x.ok = true) (w : World) : Calls Tryd.prog 52 #[.int .i64 x.k] w fun e w' => e = .returned (.int .i64 x.bits) ∧ w = w' := bitsOfC x.k (x.ok_kind h) w
set_option maxRecDepth 100000 in
theorem bits_bd (x : Ad) : 32 ≤ x.bits ∧ x.bits ≤ 128 := by
  unfold Ad.bits
  split <;> omega

set_option maxRecDepth 100000 in
set_option maxHeartbeats 400000 in
theorem clipC (a : Nat) (i : Nat) (w : World) : Calls Tryd.prog 92 #[.int .i64 ((a : Int) - 8 * (i : Int)), .int .i64 0, .int .i64 8] w fun e w' => e = .returned (.int .i64 ((min 8 (a - 8 * i) : Nat) : Int)) ∧ w = w' := by
  go_enter Tryd.func92, Tryd.ntmps92
  go_wp2
  all_goals (go_ret; exact ⟨ret_int (by omega), rfl⟩)

/-- The row while the first i bytes are cut. -/
def cutting (e i : Nat) (bs : List UInt8) : List UInt8 := (cutB e bs).take i ++ bs.drop i
set_option maxRecDepth 100000 in
theorem cutting_at (e i : Nat) (bs : List UInt8) (h : i < bs.length) : (cutting e i bs)[i]? = some bs[i] := by
  unfold cutting
  have hl : ((cutB e bs).take i).length = i := by simp [cutB_length]; omega
  rw [List.getElem?_append_right (by omega), hl, Nat.sub_self, List.getElem?_drop]
  simp [h]
set_option maxRecDepth 100000 in
theorem cutting_step (e i : Nat) (bs : List UInt8) (h : i < bs.length) : (cellsOf (cutting e i bs)).set i (.int .u8 ((cutByte bs[i] (min 8 (e - 8 * i))).toNat : Int)) = cellsOf (cutting e (i + 1) bs) := by
  unfold cutting
  have hl : ((cutB e bs).take i).length = i := by simp [cutB_length]; omega
  rw [List.drop_eq_getElem_cons h, fill_step _ _ _ _ i hl, take_snoc (cutB e bs) i (by rw [cutB_length]; exact h), cutB_get _ _ _ h]
set_option maxRecDepth 100000 in
theorem cutting_end (e : Nat) (bs : List UInt8) : cutting e bs.length bs = cutB e bs := by
  unfold cutting
  rw [List.drop_length, List.append_nil, List.take_of_length_le (by rw [cutB_length]; exact Nat.le_refl _)]
set_option maxRecDepth 100000 in
theorem mask_all : ∀ k : Fin 9, ∀ b : Fin 256, (b.val &&& (255 * 2 ^ (8 - k.val) % 256)) = b.val - b.val % 2 ^ (8 - k.val) := by decide +kernel
set_option maxRecDepth 100000 in
theorem and_mask (b : UInt8) (k : Nat) (h : k ≤ 8) : bits .and .u8 (b.toNat : Int) (255 * 2 ^ (8 - k) % 256) = ((cutByte b k).toNat : Int) := by
  have hb := UInt8.toNat_lt b
  have hm := mask_all ⟨k, by omega⟩ ⟨b.toNat, by omega⟩
  simp only at hm
  have e : (255 * 2 ^ (8 - k) % 256 : Int) = ((255 * 2 ^ (8 - k) % 256 : Nat) : Int) := by rw [Int.natCast_emod, Int.natCast_mul, Int.natCast_pow]; rfl
  rw [e]
  generalize hmm : 255 * 2 ^ (8 - k) % 256 = m at hm
  have hm256 : m < 256 := by omega
  have e1 : (BitVec.ofInt 8 (b.toNat : Int)).toNat = b.toNat := by
    rw [BitVec.ofInt_natCast, BitVec.toNat_ofNat]
    exact Nat.mod_eq_of_lt (by omega)
  have e2 : (BitVec.ofInt 8 (m : Int)).toNat = m := by
    rw [BitVec.ofInt_natCast, BitVec.toNat_ofNat]
    exact Nat.mod_eq_of_lt (by omega)
  show IntKind.u8.wrap ((BitVec.ofInt 8 (b.toNat : Int) &&& BitVec.ofInt 8 (m : Int)).toNat : Int) = _
  rw [BitVec.toNat_and, e1, e2, hm, cutByte_val, IntKind.wrap_u8]
  omega

set_option maxRecDepth 100000 in
set_option maxHeartbeats 400000 in
theorem firstBitsC (x : Ad) (n : Int) (h : x.ok = true) (h0 : 0 ≤ n) (h1 : n ≤ x.bits) (w : World) :
    Calls Tryd.prog 71 #[.agg #[.int .i64 x.k, .int .i64 x.a, .int .i64 x.b, .int .i64 x.c, .int .i64 x.d], .int .i64 n] w fun e w' => e = .returned (.agg (cellsOf (cutB (128 - x.bits + n).toNat x.whole)).toArray) ∧ Below w.heap.size w w' := by
  obtain ⟨E, hE⟩ : ∃ E : Nat, (E : Int) = 128 - x.bits + n := ⟨(128 - x.bits + n).toNat, by have := bits_bd x; omega⟩
  have hE128 : E ≤ 128 := by omega
  obtain ⟨hb0, hb1⟩ := bits_bd x
  have HE := Lib.hid hE
  rw [show (128 - x.bits + n).toNat = E by omega]
  clear hE
  have HK := Lib.hid (bits_is x h)
  clear h
  go_enter Tryd.func71, Tryd.ntmps71
  go_wp2_with fail
  refine (packedC x _).mono ?_
  rintro e w1 ⟨rfl, b1⟩
  have hst := store_cells (w1.alloc (.cells (cellsOf (List.replicate 16 0)).toArray 68)) w1.heap.size 68 _ x.whole (Go.heap_alloc_last _ _) (by rw [x.whole_length]; rfl)
  have hz : (cellsOf (List.replicate 16 0)).toArray = #[Value.int .u8 0, .int .u8 0, .int .u8 0, .int .u8 0, .int .u8 0, .int .u8 0, .int .u8 0, .int .u8 0, .int .u8 0, .int .u8 0, .int .u8 0, .int .u8 0, .int .u8 0, .int .u8 0, .int .u8 0, .int .u8 0] := rfl
  rw [World.setRow_alloc_new, hz] at hst
  have c0 : w1.cell? ⟨w.heap.size, 0, none⟩ = some (.int .i64 x.k) := cell_on b1 (by simp [go_sem])
  have cA : (w1.alloc (.cells (cellsOf x.whole).toArray 68)).cell? ⟨w.heap.size, 0, none⟩ = some (.int .i64 x.k) := cell_on (Joins.below_alloc1 w1 _) c0
  have hl16 : (cellsOf x.whole).length = 16 := by rw [cellsOf_length, x.whole_length]
  clear c0
  have r1 := row_on b1 (g := w.heap.size + 1) (by simp) (heap_alloc2_new w _ _)
  rw [← hz] at r1
  have R1 := Lib.hid r1
  clear hz r1
  have hlt : w.heap.size + 1 + 1 ≤ w1.heap.size := by have := b1.size; simpa using this
  have B1 := bthen (Joins.below_alloc2 w _ _) b1
  clear b1
  go_wp2_with (go_at_call 52; refine (HK.out _).mono ?_; rintro e w' ⟨rfl, rfl⟩)
  go_loopw [17] (fun s wr => ∃ i : Nat, i ≤ 16 ∧ s = .int .i64 i ∧ wr.heap[w.heap.size + 1]? = some (.cells (cellsOf (List.replicate 16 0)).toArray 68 (0, 0)) ∧ wr.heap[w1.heap.size]? = some (.cells (cellsOf (cutting E i x.whole)).toArray 68 (0, 0)) ∧ Below w.heap.size w wr) (fun s _ => 16 - (intOf s).toNat)
  case atStart => exact ⟨0, by omega, rfl, row_on (Joins.below_alloc1 w1 _) (by omega) R1.out, by simpa [cutting] using Go.heap_alloc_last w1 _, bthen B1 (Joins.below_alloc1 w1 _)⟩
  case round =>
    obtain ⟨i, hi, rfl, h3, h4, hb⟩ := hrel
    by_cases hlt : i < 16
    · have hil : i < x.whole.length := by rw [x.whole_length]; exact hlt
      have hce : wr.cell? ⟨w1.heap.size, i, none⟩ = some (.int .u8 (x.whole[i].toNat : Int)) := by
        rw [cell_of_row wr _ i _ _ _ h4]
        simpa using cellsOf_get _ i _ (cutting_at E i x.whole hil)
      have hfz := frozen_of_row wr w1.heap.size i _ _ h4
      obtain ⟨b, hbb⟩ : ∃ b : UInt8, b = x.whole[i] := ⟨_, rfl⟩
      rw [← hbb] at hce
      have R := heap_setCell_same wr w1.heap.size i _ _ (.int .u8 ((cutByte b (min 8 (E - 8 * i))).toNat : Int)) h4
      rw [List.setIfInBounds_toArray, hbb, cutting_step E i x.whole hil, ← hbb] at R
      have R0 := heap_setCell_other wr ⟨w1.heap.size, i, none⟩ (w.heap.size + 1) (.int .u8 ((cutByte b (min 8 (E - 8 * i))).toNat : Int)) (show w.heap.size + 1 ≠ w1.heap.size by omega)
      have R2 := Lib.hid (R0.trans h3)
      have R3 : Below w.heap.size w (wr.setCell ⟨w1.heap.size, i, none⟩ (.int .u8 ((cutByte b (min 8 (E - 8 * i))).toNat : Int))) := hb.setCell (show w.heap.size ≤ w1.heap.size by omega) _
      obtain ⟨K, hK⟩ : ∃ K : Nat, K = min 8 (E - 8 * i) := ⟨_, rfl⟩
      have hcl := clipC E i
      have hK8 : K ≤ 8 := by omega
      rw [← hK, HE.out] at hcl
      rw [← hK] at R R2 R3
      have HA := and_mask b K hK8
      have HR := Lib.hid R
      have HCL := Lib.hid hcl
      clear hK hcl R R0 h3 h4 hbb
      go_wp2_with (go_at_call 92; refine (HCL.out _).mono ?_; rintro e w' ⟨rfl, rfl⟩)
      go_region
      go_wp2
      go_roundw
      case rel => exact ⟨i + 1, by omega, by go_num, R2.out, HR.out, R3.drew⟩
      case measure => simp [intOf]; omega
    · obtain rfl : i = 16 := by omega
      have e16 := cutting_end E x.whole
      rw [x.whole_length] at e16
      rw [e16] at h4
      have hc16 : (cutB E x.whole).length = 16 := by rw [cutB_length, x.whole_length]
      have hst2 := store_cells wr (w.heap.size + 1) 68 _ (cutB E x.whole) h3 (by rw [hc16]; rfl)
      have H3 := Lib.hid h3
      have H4 := Lib.hid h4
      have HS := Lib.hid ((cells_size (cutB E x.whole)).trans hc16)
      have hl2 : (cellsOf (cutB E x.whole)).length = 16 := by rw [cellsOf_length, hc16]
      clear h3 h4 e16 hst
      go_wp2_with (with_reducible refine wpList_load_row rfl 68 (.tmp 5) rfl w1.heap.size rfl 68 (cellsOf (cutB E x.whole)).toArray (0, 0) _ H4.out Tryd.underlying68 rfl (by rw [HS.out]; exact info_arr) ?_)
      (try simp only [Exit.inBlock, Exit.then])
      refine bodyPost_ret (v := .agg (cellsOf (cutB E x.whole)).toArray) ?_ rfl ⟨rfl, below_setRow hb (by omega) _⟩
      exact results_cell_row rfl _ _ (w.heap.size + 1) 68 (cellsOf (cutB E x.whole)).toArray (0, 0) _ rfl (setRow_heap _ _ _ _ _ _ H3.out) Tryd.underlying68 rfl (by rw [HS.out]; exact info_arr)
end Go.Proofs.YtckakpcjbndijabDoor
namespace Go.Proofs.YtckakpcjbndijabDoor
open Go.RowKit

set_option maxRecDepth 100000 in
theorem own_of_row {w : World} {base g n : Nat} {e : TypeId} {xs : List Value} (h : w.heap[g]? = some (.cells xs.toArray e (0, 0))) (hb : base ≤ g) (hn : xs.length = n) (hm : n ≤ maxLen) : w.ownsRow base e 1 (.slice (some ⟨g, 0, none⟩) n n) n xs := by
  refine ⟨by omega, .inr ⟨g, n, xs.toArray, rfl, hb, h, Nat.le_refl _, hm, by simp; omega, ?_⟩⟩
  rw [List.take_of_length_le (by simp; omega)]

set_option maxRecDepth 100000 in
theorem cells_two {w : World} {c1 c2 : Array Value} {t1 t2 : TypeId} (j : Nat) (v : Value) (h : c1[j]? = some v) : ((w.alloc (.cells c1 t1)).alloc (.cells c2 t2)).cell? ⟨w.heap.size, j, none⟩ = some v := by
  rw [World.cell?_alloc_lt _ _ _ (by simp)]
  simp [h]

set_option maxRecDepth 100000 in
theorem whole_back4 {x : Ad} (h : x.a = 0 ∧ x.b = 0 ∧ x.c = 0) (j : Nat) (v : Value) (hv : (cellsOf (put32 x.d))[j]? = some v) : (cellsOf x.whole)[12 + j]? = some v := by
  rw [whole_four h, cellsOf_append, List.getElem?_append_right (by simp [cellsOf])]
  simpa [cellsOf] using hv

set_option maxRecDepth 100000 in
theorem make_bytes (n : Nat) (hn : n ≤ 1048576) (w : World) : (Instr.makeSlice 42 (.int .i64 (n : Int)) (.int .i64 (n : Int))).run Tryd.prog w = .ok (.slice (some ⟨w.heap.size, 0, none⟩) n n) (w.alloc (.cells (cellsOf (List.replicate n 0)).toArray 5)) := by
  have h := Go.run_make_row' (P := Tryd.prog) 42 5 (.int .u8 0) 1 Tryd.underlying42 info_u8 rfl .i64 .i64 n (by omega) (by omega) w
  have e : madeCells #[Value.int .u8 0] n = (cellsOf (List.replicate n 0)).toArray := by
    have := toList_madeCells_one (.int .u8 0) n
    apply Array.toList_inj.1
    simpa [cellsOf] using this
  rw [h, e]

set_option maxRecDepth 100000 in
set_option maxHeartbeats 400000 in
theorem implAddrBytes_no (x : Ad) (h : x.ok = false) (w : World) : Calls Tryd.prog 24 #[.agg #[.int .i64 x.k, .int .i64 x.a, .int .i64 x.b, .int .i64 x.c, .int .i64 x.d]] w (BytesOut x w) := by
  have H := Lib.hid h
  clear h
  go_enter Tryd.func24, Tryd.ntmps24
  go_wp2_with fail
  refine (implAddrOk x _).mono ?_
  rintro e w1 ⟨rfl, b1⟩
  have h := H.out
  go_wp2
  go_ret
  exact bytesOut_no H.out (bthen (Joins.below_alloc1 w _) b1)

set_option maxRecDepth 100000 in
set_option maxHeartbeats 400000 in
theorem implAddrBytes_four (x : Ad) (h : x.ok = true) (hk : x.k = 4) (w : World) : Calls Tryd.prog 24 #[.agg #[.int .i64 x.k, .int .i64 x.a, .int .i64 x.b, .int .i64 x.c, .int .i64 x.d]] w (BytesOut x w) := by
  have H := Lib.hid (bytes_four h hk)
  have HZ := Lib.hid (x.ok_four h hk)
  have HK := Lib.hid (bits_is x h)
  have HB := Lib.hid (show x.bits = 32 by simp [Ad.bits, hk])
  have HH := Lib.hid h
  clear h hk
  go_enter Tryd.func24, Tryd.ntmps24
  go_wp2_with fail
  refine (implAddrOk x _).mono ?_
  rintro e w1 ⟨rfl, b1⟩
  obtain ⟨c0, c1, c2, c3, c4⟩ := ad_box b1
  have bb := bthen (Joins.below_alloc1 w _) b1
  have h := HH.out
  clear b1
  go_wp2_with fail
  refine (packedC x _).mono ?_
  rintro e w2 ⟨rfl, b2⟩
  have hst := store_cells (w2.alloc (.cells (cellsOf (List.replicate 16 0)).toArray 68)) w2.heap.size 68 _ x.whole (Go.heap_alloc_last _ _) (by rw [x.whole_length]; rfl)
  have hz : (cellsOf (List.replicate 16 0)).toArray = #[Value.int .u8 0, .int .u8 0, .int .u8 0, .int .u8 0, .int .u8 0, .int .u8 0, .int .u8 0, .int .u8 0, .int .u8 0, .int .u8 0, .int .u8 0, .int .u8 0, .int .u8 0, .int .u8 0, .int .u8 0, .int .u8 0] := rfl
  rw [World.setRow_alloc_new, hz] at hst
  have cA : (w2.alloc (.cells (cellsOf x.whole).toArray 68)).cell? ⟨w.heap.size, 0, none⟩ = some (.int .i64 x.k) := cell_on (Joins.below_alloc1 w2 _) (cell_on b2 c0)
  have hl16 : (cellsOf x.whole).length = 16 := by rw [cellsOf_length, x.whole_length]
  have B2 := bthen bb b2
  clear hz c0 c1 c2 c3 c4
  have hmk : ∀ w, (Instr.makeSlice 42 (.int .i64 4) (.int .i64 4)).run Tryd.prog w = .ok (.slice (some ⟨w.heap.size, 0, none⟩) 4 4) (w.alloc (.cells (cellsOf (List.replicate 4 0)).toArray 5)) := make_bytes 4 (by omega)
  have hsl := slice_arr w2.heap.size 12 (by omega)
  go_wp2_with (first | (go_at_call 52; refine (HK.out _).mono ?_; rintro e w' ⟨rfl, rfl⟩; rw [HB.out]) | (with_reducible refine wpList_copy_splice rfl (.tmp 15) (.tmp 19) 42 42 rfl 5 Tryd.underlying42 info_u8s _ _ _ _ _ _ rfl rfl (w2.heap.size + 1) 0 (cellsOf (List.replicate 4 0)) 5 ?_ (cellsOf (put32 x.d)) ?_ ?_ ?_ (cellsOf_one _) (w2.heap.size + 1) _ (Below.refl _ _) (Nat.le_refl _) ?_))
  · exact heap_alloc2_new w2 _ _
  · rfl
  · exact fun _ j v hv => whole_back4 HZ.out j v hv
  · simp [cellsOf, put32]
  · intro w4 hg4 hb4
    have hg : w4.heap[w2.heap.size + 1]? = some (.cells (cellsOf (put32 x.d)).toArray 5 (0, 0)) := by simpa [splice, cellsOf, put32] using hg4.out
    have o4 := Lib.hid (own_of_row (base := w2.heap.size + 1) hg (Nat.le_refl _) (show _ = 4 from rfl) (by decide))
    clear hg
    go_wp2
    go_ret
    exact bytesOut_yes H.out rfl o4.out (by have := B2.size; omega) ((bthen B2 (Joins.below_alloc2 w2 _ _)).trans (hb4.mono (by have := B2.size; omega)))
set_option maxRecDepth 100000 in
set_option maxHeartbeats 400000 in
theorem implAddrBytes_six (x : Ad) (h : x.ok = true) (hk : x.k = 6) (w : World) : Calls Tryd.prog 24 #[.agg #[.int .i64 x.k, .int .i64 x.a, .int .i64 x.b, .int .i64 x.c, .int .i64 x.d]] w (BytesOut x w) := by
  have H := Lib.hid (bytes_six h hk)
  have HK := Lib.hid (bits_is x h)
  have HB := Lib.hid (show x.bits = 128 by simp [Ad.bits, hk])
  have HH := Lib.hid h
  clear h hk
  go_enter Tryd.func24, Tryd.ntmps24
  go_wp2_with fail
  refine (implAddrOk x _).mono ?_
  rintro e w1 ⟨rfl, b1⟩
  obtain ⟨c0, c1, c2, c3, c4⟩ := ad_box b1
  have bb := bthen (Joins.below_alloc1 w _) b1
  have h := HH.out
  clear b1
  go_wp2_with fail
  refine (packedC x _).mono ?_
  rintro e w2 ⟨rfl, b2⟩
  have hst := store_cells (w2.alloc (.cells (cellsOf (List.replicate 16 0)).toArray 68)) w2.heap.size 68 _ x.whole (Go.heap_alloc_last _ _) (by rw [x.whole_length]; rfl)
  have hz : (cellsOf (List.replicate 16 0)).toArray = #[Value.int .u8 0, .int .u8 0, .int .u8 0, .int .u8 0, .int .u8 0, .int .u8 0, .int .u8 0, .int .u8 0, .int .u8 0, .int .u8 0, .int .u8 0, .int .u8 0, .int .u8 0, .int .u8 0, .int .u8 0, .int .u8 0] := rfl
  rw [World.setRow_alloc_new, hz] at hst
  have cA : (w2.alloc (.cells (cellsOf x.whole).toArray 68)).cell? ⟨w.heap.size, 0, none⟩ = some (.int .i64 x.k) := cell_on (Joins.below_alloc1 w2 _) (cell_on b2 c0)
  have hl16 : (cellsOf x.whole).length = 16 := by rw [cellsOf_length, x.whole_length]
  have B2 := bthen bb b2
  clear hz c0 c1 c2 c3 c4
  have hmk : ∀ w, (Instr.makeSlice 42 (.int .i64 16) (.int .i64 16)).run Tryd.prog w = .ok (.slice (some ⟨w.heap.size, 0, none⟩) 16 16) (w.alloc (.cells (cellsOf (List.replicate 16 0)).toArray 5)) := make_bytes 16 (by omega)
  have hsl := slice_arr w2.heap.size 0 (by omega)
  go_wp2_with (first | (go_at_call 52; refine (HK.out _).mono ?_; rintro e w' ⟨rfl, rfl⟩; rw [HB.out]) | (with_reducible refine wpList_copy_splice rfl (.tmp 15) (.tmp 19) 42 42 rfl 5 Tryd.underlying42 info_u8s _ _ _ _ _ _ rfl rfl (w2.heap.size + 1) 0 (cellsOf (List.replicate 16 0)) 5 ?_ (cellsOf x.whole) ?_ ?_ ?_ (cellsOf_one _) (w2.heap.size + 1) _ (Below.refl _ _) (Nat.le_refl _) ?_))
  · exact heap_alloc2_new w2 _ _
  · rfl
  · simp [cellsOf, Ad.whole, put32]
  · intro w4 hg4 hb4
    have hg : w4.heap[w2.heap.size + 1]? = some (.cells (cellsOf x.whole).toArray 5 (0, 0)) := by simpa [splice, cellsOf, Ad.whole, put32] using hg4.out
    have o4 := Lib.hid (own_of_row (base := w2.heap.size + 1) hg (Nat.le_refl _) (show _ = 16 from rfl) (by decide))
    clear hg
    go_wp2
    go_ret
    exact bytesOut_yes H.out rfl o4.out (by have := B2.size; omega) ((bthen B2 (Joins.below_alloc2 w2 _ _)).trans (hb4.mono (by have := B2.size; omega)))
set_option maxRecDepth 100000 in
theorem implAddrBytes (x : Ad) (w : World) : Calls Tryd.prog 24 #[.agg #[.int .i64 x.k, .int .i64 x.a, .int .i64 x.b, .int .i64 x.c, .int .i64 x.d]] w (BytesOut x w) := by
  cases h : x.ok
  · exact implAddrBytes_no x h w
  · rcases x.ok_kind h with hk | hk
    · exact implAddrBytes_four x h hk w
    · exact implAddrBytes_six x h hk w
end Go.Proofs.YtckakpcjbndijabDoor
namespace Go.Proofs.YtckakpcjbndijabDoor
open Go.RowKit

/-- The address of bytes: of four, of sixteen. -/
def ofA (bs : List UInt8) : Ad := if bs.length = 4 then ⟨4, 0, 0, 0, be bs⟩ else if bs.length = 16 then unw 6 bs else Ad.zero
def okA (bs : List UInt8) : Bool := decide (bs.length = 4) || decide (bs.length = 16)
def OfOut (bs : List UInt8) (w : World) (e : Ending) (w' : World) : Prop := e = .returned (.tuple #[.agg #[.int .i64 (ofA bs).k, .int .i64 (ofA bs).a, .int .i64 (ofA bs).b, .int .i64 (ofA bs).c, .int .i64 (ofA bs).d], .bool (okA bs)]) ∧ Below w.heap.size w w'
set_option maxRecDepth 100000 in
theorem ofOut_of {bs : List UInt8} {y : Ad} {ok : Bool} {w w' : World} (h1 : ofA bs = y) (h2 : okA bs = ok) (hb : Below w.heap.size w w') : OfOut bs w (.returned (.tuple #[.agg #[.int .i64 y.k, .int .i64 y.a, .int .i64 y.b, .int .i64 y.c, .int .i64 y.d], .bool ok])) w' := by
  subst h1
  subst h2
  exact ⟨rfl, hb⟩
set_option maxRecDepth 100000 in
theorem ofA_four {bs : List UInt8} (h : bs.length = 4) : ofA bs = ⟨4, 0, 0, 0, be bs⟩ := by simp [ofA, h]
set_option maxRecDepth 100000 in
theorem ofA_six {bs : List UInt8} (h : bs.length = 16) : ofA bs = unw 6 bs := by simp [ofA, h]
set_option maxRecDepth 100000 in
theorem unw_four (bs : List UInt8) (h : bs.length = 4) : unw 4 (List.replicate 12 0 ++ bs) = ⟨4, 0, 0, 0, be bs⟩ := by
  obtain ⟨p, q, r, s, rfl⟩ := len4 h
  simp [unw, be]

set_option maxRecDepth 100000 in
/-- The cells of a block of five that may be written. -/
theorem row5 {w : World} {g : Nat} {v0 v1 v2 v3 v4 : Value} {t : TypeId} (h : w.heap[g]? = some (.cells #[v0, v1, v2, v3, v4] t (0, 0))) :
    (w.cell? ⟨g, 0, none⟩ = some v0 ∧ w.cell? ⟨g, 1, none⟩ = some v1 ∧ w.cell? ⟨g, 2, none⟩ = some v2 ∧ w.cell? ⟨g, 3, none⟩ = some v3 ∧ w.cell? ⟨g, 4, none⟩ = some v4) ∧
      (w.frozen? ⟨g, 0, none⟩ = false ∧ w.frozen? ⟨g, 1, none⟩ = false ∧ w.frozen? ⟨g, 2, none⟩ = false ∧ w.frozen? ⟨g, 3, none⟩ = false ∧ w.frozen? ⟨g, 4, none⟩ = false) :=
  ⟨⟨cell_of_row w g 0 _ _ _ h, cell_of_row w g 1 _ _ _ h, cell_of_row w g 2 _ _ _ h, cell_of_row w g 3 _ _ _ h, cell_of_row w g 4 _ _ _ h⟩,
    ⟨frozen_of_row w g 0 _ _ h, frozen_of_row w g 1 _ _ h, frozen_of_row w g 2 _ _ h, frozen_of_row w g 3 _ _ h, frozen_of_row w g 4 _ _ h⟩⟩
set_option maxRecDepth 100000 in
theorem set5 {w : World} {g : Nat} {a0 a1 a2 a3 a4 : Value} {t : TypeId} (v0 v1 v2 v3 v4 : Value) (h : w.heap[g]? = some (.cells #[a0, a1, a2, a3, a4] t (0, 0))) :
    (((((w.setCell ⟨g, 0, none⟩ v0).setCell ⟨g, 1, none⟩ v1).setCell ⟨g, 2, none⟩ v2).setCell ⟨g, 3, none⟩ v3).setCell ⟨g, 4, none⟩ v4).heap[g]? = some (.cells #[v0, v1, v2, v3, v4] t (0, 0)) :=
  heap_setCell_same _ g 4 #[v0, v1, v2, v3, a4] t v4 (heap_setCell_same _ g 3 #[v0, v1, v2, a3, a4] t v3 (heap_setCell_same _ g 2 #[v0, v1, a2, a3, a4] t v2 (heap_setCell_same _ g 1 #[v0, a1, a2, a3, a4] t v1 (heap_setCell_same _ g 0 _ t v0 h))))
set_option maxRecDepth 100000 in
theorem res_cell_tmp {fn : Func} {p u : Tmp} {ty : TypeId} (h : fn.results = #[.cell p ty, .tmp u]) (tmps : Array Value) (P : Program) (w : World) (g : Nat) (cs : Array Value)
    (hp : tmps.getD p undef = .pointer (some ⟨g, 0, none⟩)) (hld : (loadVar ty ⟨g, 0, none⟩).run P w = .ok (.agg cs) w) :
    (results fn tmps).run P w = .ok (.tuple #[.agg cs, tmps.getD u undef]) w := by
  rw [results_cell_tmp h, hp]
  simp [asAddr, Result.andThen, hld]
set_option maxRecDepth 100000 in
theorem info_addr : (Tryd.prog.info? 25).map (·.size) = some 5 := by kernel_rfl
set_option maxRecDepth 100000 in
theorem new_row {w w' : World} {o : Obj} (b : Below (w.alloc o).heap.size (w.alloc o) w') : w'.heap[w.heap.size]? = some o := row_on b (by simp) (Go.heap_alloc_last w o)

set_option maxRecDepth 100000 in
set_option maxHeartbeats 400000 in
theorem specAddrOf (A : Option Addr) (n c : Nat) (bs : List UInt8) (w : World) (hr : RB w w.heap.size A bs) (hl : bs.length = n) (hn : n ≤ 1048576) : Calls Tryd.prog 38 #[.slice A n c] w (OfOut bs w) := by
  have hr1 : ∀ o, RB (w.alloc o) (w.alloc o).heap.size A bs := fun o => (hr.below (Joins.below_alloc1 w o)).more (by simp)
  have HR := Lib.hid hr1
  have HL := Lib.hid hl
  by_cases h4 : n = 4
  · subst h4
    have HO := Lib.hid (And.intro (ofA_four hl) (show okA bs = true by simp [okA, hl]))
    have e4 := Lib.hid (show (bs.drop 0).take 4 = bs from List.take_of_length_le (by simp; omega))
    clear hr1 hl
    go_enter Tryd.func38, Tryd.ntmps38
    go_wp2_with fail
    refine (specBe32 A 4 c bs 0 _ (HR.out _) HL.out (by omega) (by omega)).mono ?_
    rintro e w1 ⟨rfl, b1⟩
    rw [e4.out]
    obtain ⟨⟨c0, c1, c2, c3, c4⟩, f0, f1, f2, f3, f4⟩ := row5 (new_row b1)
    go_wp2
    (try simp only [Exit.inBlock, Exit.then])
    refine bodyPost_ret (v := .tuple #[.agg #[.int .i64 4, .int .i64 0, .int .i64 0, .int .i64 0, .int .i64 (be bs)], .bool true]) ?_ rfl (ofOut_of HO.out.1 HO.out.2 (by have := bthen (Joins.below_alloc1 w _) b1; go_grown))
    refine res_cell_tmp Tryd.results38 _ _ _ w.heap.size _ ?_ (run_loadVar_row _ _ 25 25 _ (0, 0) _ (set5 _ _ _ _ _ (new_row b1)) Tryd.underlying25 rfl info_addr)
    rfl
  · by_cases h16 : n = 16
    · subst h16
      have HO := Lib.hid (And.intro (ofA_six hl) (show okA bs = true by simp [okA, hl]))
      clear hr1 hl
      go_enter Tryd.func38, Tryd.ntmps38
      go_wp2_with fail
      refine (specBe32 A 16 c bs 0 _ (HR.out _) HL.out (by omega) (by omega)).mono ?_
      rintro e w1 ⟨rfl, b1⟩
      have r1 := ((HR.out _).below b1).more b1.size
      go_wp2_with fail
      refine (specBe32 A 16 c bs 4 _ r1 HL.out (by omega) (by omega)).mono ?_
      rintro e w2 ⟨rfl, b2⟩
      have r2 := (r1.below b2).more b2.size
      go_wp2_with fail
      refine (specBe32 A 16 c bs 8 _ r2 HL.out (by omega) (by omega)).mono ?_
      rintro e w3 ⟨rfl, b3⟩
      have r3 := (r2.below b3).more b3.size
      go_wp2_with fail
      refine (specBe32 A 16 c bs 12 _ r3 HL.out (by omega) (by omega)).mono ?_
      rintro e w4 ⟨rfl, b4⟩
      have B4 := bthen (bthen (bthen b1 b2) b3) b4
      obtain ⟨⟨c0, c1, c2, c3, c4⟩, f0, f1, f2, f3, f4⟩ := row5 (new_row B4)
      have B5 := bthen (Joins.below_alloc1 w _) B4
      have N5 := Lib.hid (new_row B4)
      clear b1 b2 b3 b4 B4 r1 r2 r3
      go_wp2
      (try simp only [Exit.inBlock, Exit.then])
      refine bodyPost_ret (v := .tuple #[.agg #[.int .i64 (unw 6 bs).k, .int .i64 (unw 6 bs).a, .int .i64 (unw 6 bs).b, .int .i64 (unw 6 bs).c, .int .i64 (unw 6 bs).d], .bool true]) ?_ rfl (ofOut_of HO.out.1 HO.out.2 (by go_grown))
      refine res_cell_tmp Tryd.results38 _ _ _ w.heap.size _ ?_ (run_loadVar_row _ _ 25 25 _ (0, 0) _ (set5 _ _ _ _ _ N5.out) Tryd.underlying25 rfl info_addr)
      rfl
    · have HO := Lib.hid (And.intro (show ofA bs = Ad.zero by simp [ofA, hl, h4, h16]) (show okA bs = false by simp [okA, hl, h4, h16]))
      clear hr1 hl
      go_enter Tryd.func38, Tryd.ntmps38
      go_wp2
      go_returns
      exact ofOut_of HO.out.1 HO.out.2 (by go_grown)
end Go.Proofs.YtckakpcjbndijabDoor
namespace Go.Proofs.YtckakpcjbndijabDoor
open Go.RowKit

/-- The pieces between the bytes c. -/
def splitC (c : UInt8) : List UInt8 → List (List UInt8)
  | [] => [[]]
  | b :: l => if b = c then [] :: splitC c l else match splitC c l with | p :: ps => (b :: p) :: ps | [] => [[b]]
set_option maxRecDepth 100000 in
theorem splitC_ne (c : UInt8) (l : List UInt8) : splitC c l ≠ [] := by
  cases l with
  | nil => simp [splitC]
  | cons b l =>
    simp only [splitC]
    split
    · simp
    · split <;> simp
set_option maxRecDepth 100000 in
theorem splitC_hit (c : UInt8) (l : List UInt8) : splitC c (c :: l) = [] :: splitC c l := by simp [splitC]
set_option maxRecDepth 100000 in
theorem splitC_other (c b : UInt8) (l p : List UInt8) (ps : List (List UInt8)) (h : b ≠ c) (e : splitC c l = p :: ps) : splitC c (b :: l) = (b :: p) :: ps := by simp [splitC, h, e]
set_option maxRecDepth 100000 in
theorem splitC_cons (c : UInt8) (l : List UInt8) : ∃ p ps, splitC c l = p :: ps := by
  cases h : splitC c l with
  | nil => exact absurd h (splitC_ne c l)
  | cons p ps => exact ⟨p, ps, rfl⟩
set_option maxRecDepth 100000 in
theorem split_snoc (c b : UInt8) : ∀ l : List UInt8, ∃ init last, splitC c l = init ++ [last] ∧ splitC c (l ++ [b]) = if b = c then init ++ [last] ++ [[]] else init ++ [last ++ [b]] := by
  intro l
  induction l with
  | nil =>
    refine ⟨[], [], rfl, ?_⟩
    by_cases h : b = c
    · simp [splitC, h]
    · simp [splitC, h]
  | cons a l ih =>
    obtain ⟨init, last, e1, e2⟩ := ih
    by_cases ha : a = c
    · subst ha
      refine ⟨[] :: init, last, by rw [splitC_hit, e1]; rfl, ?_⟩
      rw [List.cons_append, splitC_hit, e2]
      split <;> rfl
    · cases init with
      | nil =>
        refine ⟨[], a :: last, splitC_other c a l last [] ha e1, ?_⟩
        rw [List.cons_append]
        split
        · rename_i hb
          rw [if_pos hb] at e2
          exact splitC_other c a _ last [[]] ha e2
        · rename_i hb
          rw [if_neg hb] at e2
          exact splitC_other c a _ (last ++ [b]) [] ha e2
      | cons q qs =>
        refine ⟨(a :: q) :: qs, last, splitC_other c a l q (qs ++ [last]) ha e1, ?_⟩
        rw [List.cons_append]
        split
        · rename_i hb
          rw [if_pos hb] at e2
          exact splitC_other c a _ q _ ha e2
        · rename_i hb
          rw [if_neg hb] at e2
          exact splitC_other c a _ q _ ha e2
set_option maxRecDepth 100000 in
theorem join_split (c : UInt8) : ∀ l : List UInt8, joinC c (splitC c l) = l := by
  intro l
  induction l with
  | nil => simp [splitC, joinC_one]
  | cons b l ih =>
    obtain ⟨p, ps, e⟩ := splitC_cons c l
    rw [e] at ih
    by_cases h : b = c
    · subst h
      rw [splitC_hit, e, joinC_cons, ih]
      rfl
    · rw [splitC_other c b l p ps h e]
      cases ps with
      | nil => rw [joinC_one] at ih ⊢; rw [ih]
      | cons q qs => rw [joinC_cons] at ih ⊢; rw [← ih]; rfl
set_option maxRecDepth 100000 in
theorem split_one (c : UInt8) : ∀ l : List UInt8, c ∉ l → splitC c l = [l] := by
  intro l
  induction l with
  | nil => intro _; rfl
  | cons b l ih =>
    intro h
    exact splitC_other c b l l [] (fun e => h (by simp [e])) (ih (fun e => h (by simp [e])))
set_option maxRecDepth 100000 in
theorem split_cut (c : UInt8) (r : List UInt8) : ∀ a : List UInt8, c ∉ a → splitC c (a ++ c :: r) = a :: splitC c r := by
  intro a
  induction a with
  | nil => intro _; exact splitC_hit c r
  | cons b a ih =>
    intro h
    exact splitC_other c b _ a _ (fun e => h (by simp [e])) (ih (fun e => h (by simp [e])))
set_option maxRecDepth 100000 in
theorem split_join (c : UInt8) : ∀ ps : List (List UInt8), ps ≠ [] → (∀ p ∈ ps, c ∉ p) → splitC c (joinC c ps) = ps := by
  intro ps
  induction ps with
  | nil => intro h; exact absurd rfl h
  | cons p ps ih =>
    intro _ h
    cases ps with
    | nil => rw [joinC_one]; exact split_one c p (h p (by simp))
    | cons q qs => rw [joinC_cons, split_cut c _ p (h p (by simp)), ih (by simp) (fun x hx => h x (by simp [hx]))]
set_option maxRecDepth 100000 in
theorem split_len_pos (c : UInt8) (l : List UInt8) : 1 ≤ (splitC c l).length := by
  obtain ⟨p, ps, e⟩ := splitC_cons c l
  rw [e]
  simp
set_option maxRecDepth 100000 in
theorem split_mem (c : UInt8) (l : List UInt8) (h : 2 ≤ (splitC c l).length) : c ∈ l := by
  by_cases hc : c ∈ l
  · exact hc
  · rw [split_one c l hc] at h
    simp at h
set_option maxRecDepth 100000 in
theorem join_mem (c : UInt8) (x y : List UInt8) (l : List (List UInt8)) : c ∈ joinC c (x :: y :: l) := by
  rw [joinC_cons]
  simp
set_option maxRecDepth 100000 in
theorem join_not_mem (c d : UInt8) (h : d ≠ c) : ∀ ps : List (List UInt8), (∀ p ∈ ps, d ∉ p) → d ∉ joinC c ps := by
  intro ps
  induction ps with
  | nil => intro _; simp [joinC_nil]
  | cons p ps ih =>
    intro hp
    cases ps with
    | nil => rw [joinC_one]; exact hp p (by simp)
    | cons q qs =>
      rw [joinC_cons]
      have h1 := ih (fun x hx => hp x (by simp [hx]))
      have h2 := hp p (by simp)
      simp only [List.mem_append, List.mem_cons, not_or]
      exact ⟨h2, h, h1⟩
set_option maxRecDepth 100000 in
theorem joinC_len1 (c : UInt8) (m : Nat) : ∀ xs : List (List UInt8), xs ≠ [] → (∀ x ∈ xs, x.length ≤ m) → (joinC c xs).length + 1 ≤ xs.length * (m + 1) := by
  intro xs
  induction xs with
  | nil => intro h; exact absurd rfl h
  | cons x ys ih =>
    intro _ h
    have hx := h x (by simp)
    cases ys with
    | nil => rw [joinC_one]; simp; omega
    | cons y zs =>
      have := ih (by simp) (fun z hz => h z (by simp [hz]))
      rw [joinC_cons, List.length_append, List.length_cons]
      simp only [List.length_cons] at this ⊢
      have e : (zs.length + 1 + 1) * (m + 1) = (zs.length + 1) * (m + 1) + (m + 1) := by rw [Nat.add_mul (zs.length + 1) 1, Nat.one_mul]
      omega

set_option maxRecDepth 100000 in
theorem dec_all : ∀ n : Nat, (dec n).all isDig = true := by
  intro n
  induction n using Nat.strongRecOn with
  | ind n ih =>
    by_cases h : n = 0
    · subst h; rw [dec_zero]; rfl
    · rw [dec_pos n h, List.all_append, ih (n / 10) (by omega)]
      have hd := digit_val (n % 10) (by omega)
      simp only [List.all_cons, List.all_nil, Bool.and_true, Bool.true_and, isDig, decide_eq_true_eq]
      omega
set_option maxRecDepth 100000 in
theorem val_dec : ∀ n : Nat, val (dec n) = n := by
  intro n
  induction n using Nat.strongRecOn with
  | ind n ih =>
    by_cases h : n = 0
    · subst h; rw [dec_zero]; rfl
    · rw [dec_pos n h, val_snoc, ih (n / 10) (by omega)]
      have hd := digit_val (n % 10) (by omega)
      omega
/-- A part of four that reads as a byte. -/
def part4 (p : List UInt8) : Bool := okNum p && decide (val p ≤ 255)
def byte4 (p : List UInt8) : UInt8 := UInt8.ofNat (val p)
set_option maxRecDepth 100000 in
theorem numB_facts (b : UInt8) : (numB b).all isDig = true ∧ val (numB b) = b.toNat ∧ 1 ≤ (numB b).length ∧ ((numB b).length = 1 ∨ (numB b).head? ≠ some 48) := by
  unfold numB numText
  by_cases h : (b.toNat : Int) = 0
  · rw [if_pos h]
    have : b.toNat = 0 := by omega
    rw [this]
    exact ⟨rfl, rfl, by simp, .inl rfl⟩
  · rw [if_neg h, if_neg (by omega), Int.natAbs_natCast]
    have hb : b.toNat ≠ 0 := by omega
    obtain ⟨c, t, e, hc⟩ := dec_head b.toNat hb
    exact ⟨dec_all _, val_dec _, by rw [e]; simp, .inr (by rw [e]; simpa using hc)⟩
set_option maxRecDepth 100000 in
theorem part4_num (b : UInt8) : part4 (numB b) = true ∧ byte4 (numB b) = b := by
  obtain ⟨h1, h2, h3, h4⟩ := numB_facts b
  have hb := UInt8.toNat_lt b
  have hl := numB_len b
  refine ⟨?_, ?_⟩
  · simp only [part4, Bool.and_eq_true, decide_eq_true_eq]
    exact ⟨okNum_yes _ h3 (by omega) h1 h4, by omega⟩
  · unfold byte4
    rw [h2]
    simp
set_option maxRecDepth 100000 in
theorem num_part4 (p : List UInt8) (h : part4 p = true) : numB (byte4 p) = p := by
  simp only [part4, Bool.and_eq_true, decide_eq_true_eq] at h
  obtain ⟨h1, h2⟩ := h
  simp only [okNum, Bool.and_eq_true, decide_eq_true_eq, Bool.or_eq_true, ne_eq] at h1
  unfold numB byte4
  rw [show ((UInt8.ofNat (val p)).toNat : Int) = (val p : Int) by simp; omega]
  exact numText_val p h1.1.2 h1.1.1.1 h1.2

set_option maxRecDepth 100000 in
theorem hexDig_V (a : UInt8) (h : hexV a < 16) : hexDig (hexV a) = a := by
  have := (hexV_dig (hexV a) h a).2 rfl
  exact (UInt8.toNat_inj.1 this).symm
set_option maxRecDepth 100000 in
theorem hexV_D (d : Nat) (h : d < 16) : hexV (hexDig d) = d := (hexV_dig d h (hexDig d)).1 rfl
/-- A group of at most four digits. -/
def valG (p : List UInt8) : Nat := p.foldl (fun n b => 16 * n + hexV b) 0
def okG (p : List UInt8) : Bool := decide (1 ≤ p.length ∧ p.length ≤ 4) && p.all (fun b => decide (hexV b < 16)) && (decide (p.length = 1) || decide (p.head? ≠ some 48))
set_option maxRecDepth 100000 in
theorem hexV_zero (a : UInt8) (h : hexV a = 0) : a = 48 := by
  have := (hexV_dig 0 (by omega) a).2 h
  exact UInt8.toNat_inj.1 this
set_option maxRecDepth 100000 in
theorem hexN1 (a : Nat) (h : a < 16) : hexN a = [hexDig a] := hexN_small a h
set_option maxRecDepth 100000 in
theorem hexN2 (a b : Nat) (h1 : 1 ≤ a) (ha : a < 16) (hb : b < 16) : hexN (16 * a + b) = [hexDig a, hexDig b] := by
  rw [hexN_big _ (by omega), show (16 * a + b) / 16 = a by omega, show (16 * a + b) % 16 = b by omega, hexN1 a ha]
  rfl
set_option maxRecDepth 100000 in
theorem hexN3 (a b c : Nat) (h1 : 1 ≤ a) (ha : a < 16) (hb : b < 16) (hc : c < 16) : hexN (16 * (16 * a + b) + c) = [hexDig a, hexDig b, hexDig c] := by
  rw [hexN_big _ (by omega), show (16 * (16 * a + b) + c) / 16 = 16 * a + b by omega, show (16 * (16 * a + b) + c) % 16 = c by omega, hexN2 a b h1 ha hb]
  rfl
set_option maxRecDepth 100000 in
theorem hexN4 (a b c d : Nat) (h1 : 1 ≤ a) (ha : a < 16) (hb : b < 16) (hc : c < 16) (hd : d < 16) : hexN (16 * (16 * (16 * a + b) + c) + d) = [hexDig a, hexDig b, hexDig c, hexDig d] := by
  rw [hexN_big _ (by omega), show (16 * (16 * (16 * a + b) + c) + d) / 16 = 16 * (16 * a + b) + c by omega, show (16 * (16 * (16 * a + b) + c) + d) % 16 = d by omega, hexN3 a b c h1 ha hb hc]
  rfl
set_option maxRecDepth 100000 in
theorem hex_okG (p : List UInt8) (h : okG p = true) : hexN (valG p) = p ∧ valG p < 65536 := by
  simp only [okG, Bool.and_eq_true, decide_eq_true_eq, Bool.or_eq_true, ne_eq, List.all_eq_true] at h
  obtain ⟨⟨⟨h1, h2⟩, h3⟩, h4⟩ := h
  have nz : ∀ a : UInt8, a ≠ 48 → 1 ≤ hexV a := fun a ha => by
    rcases Nat.eq_zero_or_pos (hexV a) with h0 | h0
    · exact absurd (hexV_zero a h0) ha
    · exact h0
  match p, h1, h2 with
  | [a], _, _ =>
    have ha := h3 a (by simp)
    have e : valG [a] = hexV a := by simp [valG]
    rw [e, hexN1 _ ha, hexDig_V a ha]
    exact ⟨rfl, by omega⟩
  | [a, b], _, _ =>
    have ha := h3 a (by simp)
    have hb := h3 b (by simp)
    have e : valG [a, b] = 16 * hexV a + hexV b := by simp [valG]
    have h0 := nz a (by simpa using h4)
    rw [e, hexN2 _ _ h0 ha hb, hexDig_V a ha, hexDig_V b hb]
    exact ⟨rfl, by omega⟩
  | [a, b, c], _, _ =>
    have ha := h3 a (by simp)
    have hb := h3 b (by simp)
    have hc := h3 c (by simp)
    have e : valG [a, b, c] = 16 * (16 * hexV a + hexV b) + hexV c := by simp [valG]
    have h0 := nz a (by simpa using h4)
    rw [e, hexN3 _ _ _ h0 ha hb hc, hexDig_V a ha, hexDig_V b hb, hexDig_V c hc]
    exact ⟨rfl, by omega⟩
  | [a, b, c, d], _, _ =>
    have ha := h3 a (by simp)
    have hb := h3 b (by simp)
    have hc := h3 c (by simp)
    have hd := h3 d (by simp)
    have e : valG [a, b, c, d] = 16 * (16 * (16 * hexV a + hexV b) + hexV c) + hexV d := by simp [valG]
    have h0 := nz a (by simpa using h4)
    rw [e, hexN4 _ _ _ _ h0 ha hb hc hd, hexDig_V a ha, hexDig_V b hb, hexDig_V c hc, hexDig_V d hd]
    exact ⟨rfl, by omega⟩
set_option maxRecDepth 100000 in
theorem hexDig_ne (d : Nat) (h : d < 16) (h0 : 1 ≤ d) : hexDig d ≠ 48 := by
  intro e
  have h1 := hexV_D d h
  rw [e] at h1
  have : hexV 48 = 0 := by decide
  omega
set_option maxRecDepth 100000 in
theorem okG_hex (n : Nat) (h : n < 65536) : okG (hexN n) = true ∧ valG (hexN n) = n := by
  by_cases h1 : n < 16
  · rw [hexN1 n h1]
    simp [okG, valG, hexV_D n h1, h1]
  · by_cases h2 : n < 256
    · have e : n = 16 * (n / 16) + n % 16 := by omega
      have ha : n / 16 < 16 := by omega
      have hb : n % 16 < 16 := by omega
      have h0 := hexDig_ne (n / 16) ha (by omega)
      have e2 : hexN n = [hexDig (n / 16), hexDig (n % 16)] := by
        conv => lhs; rw [e]
        exact hexN2 _ _ (by omega) ha hb
      rw [e2]
      simp [okG, valG, hexV_D _ ha, hexV_D _ hb, ha, hb, h0]
      omega
    · by_cases h3 : n < 4096
      · have e : n = 16 * (16 * (n / 256) + n / 16 % 16) + n % 16 := by omega
        have ha : n / 256 < 16 := by omega
        have hb : n / 16 % 16 < 16 := by omega
        have hc : n % 16 < 16 := by omega
        have h0 := hexDig_ne (n / 256) ha (by omega)
        have e2 : hexN n = [hexDig (n / 256), hexDig (n / 16 % 16), hexDig (n % 16)] := by
          conv => lhs; rw [e]
          exact hexN3 _ _ _ (by omega) ha hb hc
        rw [e2]
        simp [okG, valG, hexV_D _ ha, hexV_D _ hb, hexV_D _ hc, ha, hb, hc, h0]
        omega
      · have e : n = 16 * (16 * (16 * (n / 4096) + n / 256 % 16) + n / 16 % 16) + n % 16 := by omega
        have ha : n / 4096 < 16 := by omega
        have hb : n / 256 % 16 < 16 := by omega
        have hc : n / 16 % 16 < 16 := by omega
        have hd : n % 16 < 16 := by omega
        have h0 := hexDig_ne (n / 4096) ha (by omega)
        have e2 : hexN n = [hexDig (n / 4096), hexDig (n / 256 % 16), hexDig (n / 16 % 16), hexDig (n % 16)] := by
          conv => lhs; rw [e]
          exact hexN4 _ _ _ _ (by omega) ha hb hc hd
        rw [e2]
        simp [okG, valG, hexV_D _ ha, hexV_D _ hb, hexV_D _ hc, hexV_D _ hd, ha, hb, hc, hd, h0]
        omega
end Go.Proofs.YtckakpcjbndijabDoor
namespace Go.Proofs.YtckakpcjbndijabDoor
open Go.RowKit

/-- The two bytes of a number. -/
def put16N (n : Nat) : List UInt8 := put16 (n : Int)
set_option maxRecDepth 100000 in
theorem put16_words (ns : List Nat) (h : ∀ n ∈ ns, n < 65536) : wordsL (ns.flatMap put16N) = ns.map Int.ofNat := by
  induction ns with
  | nil => rfl
  | cons n ns ih =>
    have hn := h n (by simp)
    have e := ih (fun m hm => h m (by simp [hm]))
    have h1 := byteOf_val ((n : Int) / 256)
    have h2 := byteOf_val (n : Int)
    rw [List.flatMap_cons, List.map_cons, ← e]
    simp only [put16N, put16, List.cons_append, List.nil_append, wordsL]
    congr 1
    simp only [Int.ofNat_eq_natCast]
    omega
set_option maxRecDepth 100000 in
theorem put16_len (ns : List Nat) : (ns.flatMap put16N).length = 2 * ns.length := by
  induction ns with
  | nil => rfl
  | cons n ns ih => rw [List.flatMap_cons, List.length_append, ih]; simp [put16N, put16]; omega
set_option maxRecDepth 100000 in
theorem words_put16 : ∀ bs : List UInt8, bs.length % 2 = 0 → ((wordsL bs).map Int.toNat).flatMap put16N = bs
  | [], _ => rfl
  | [_], h => by simp at h
  | a :: b :: l, h => by
    have ih := words_put16 l (by simp at h; omega)
    have ha := UInt8.toNat_lt a
    have hb := UInt8.toNat_lt b
    simp only [wordsL, List.map_cons, List.flatMap_cons]
    rw [ih]
    have e : (((256 * (a.toNat : Int) + b.toNat).toNat : Nat) : Int) = 256 * a.toNat + b.toNat := by omega
    rw [put16N, e, put16, byteOf_eq _ a (by omega), byteOf_eq _ b (by omega)]
    rfl

/-- What the program reads. -/
def rd4 (s : List UInt8) : Option (List UInt8) := if (splitC 46 s).length = 4 ∧ (splitC 46 s).all part4 = true then some ((splitC 46 s).map byte4) else none
def rd6 (s : List UInt8) : Option (List UInt8) := if (splitC 58 s).length = 8 ∧ (splitC 58 s).all okG = true then some (((splitC 58 s).map valG).flatMap put16N) else none
def rdA (s : List UInt8) : Option Ad := if 58 ∈ s then (rd6 s).map ofA else (rd4 s).map ofA

set_option maxRecDepth 100000 in
theorem numB_no (b c : UInt8) (h : isDig c = false) : c ∉ numB b := fun hm => by
  have := List.all_eq_true.1 (numB_facts b).1 c hm
  rw [h] at this
  cases this
set_option maxRecDepth 100000 in
theorem hexN_no (n : Nat) (h : n < 65536) (c : UInt8) (hc : ¬ hexV c < 16) : c ∉ hexN n := fun hm => by
  have h1 := (okG_hex n h).1
  simp only [okG, Bool.and_eq_true, List.all_eq_true, decide_eq_true_eq] at h1
  exact hc (h1.1.2 c hm)
set_option maxRecDepth 100000 in
theorem text4_split (bs : List UInt8) (h : bs ≠ []) : splitC 46 (text4 bs) = bs.map numB := by
  refine split_join 46 _ (by simpa using h) (fun p hp => ?_)
  obtain ⟨b, _, rfl⟩ := List.mem_map.1 hp
  exact numB_no b 46 (by decide)
set_option maxRecDepth 100000 in
theorem text4_no (bs : List UInt8) : (58 : UInt8) ∉ text4 bs := by
  refine join_not_mem 46 58 (by decide) _ (fun p hp => ?_)
  obtain ⟨b, _, rfl⟩ := List.mem_map.1 hp
  exact numB_no b 58 (by decide)
set_option maxRecDepth 100000 in
theorem words_nat (bs : List UInt8) (n : Int) (h : n ∈ wordsL bs) : n.toNat < 65536 := by
  obtain ⟨j, hj⟩ := List.getElem?_of_mem h
  have := wordsL_le bs j n hj
  omega
set_option maxRecDepth 100000 in
theorem text6_split (bs : List UInt8) (h : wordsL bs ≠ []) : splitC 58 (text6 bs) = (wordsL bs).map hexW := by
  refine split_join 58 _ (by simpa using h) (fun p hp => ?_)
  obtain ⟨n, hn, rfl⟩ := List.mem_map.1 hp
  exact hexN_no _ (words_nat bs n hn) 58 (by decide)
set_option maxRecDepth 100000 in
theorem text6_no (bs : List UInt8) : (46 : UInt8) ∉ text6 bs := by
  refine join_not_mem 58 46 (by decide) _ (fun p hp => ?_)
  obtain ⟨n, hn, rfl⟩ := List.mem_map.1 hp
  exact hexN_no _ (words_nat bs n hn) 46 (by decide)

set_option maxRecDepth 100000 in
theorem rd4_iff (s bs : List UInt8) : rd4 s = some bs ↔ bs.length = 4 ∧ text4 bs = s := by
  unfold rd4
  constructor
  · intro h
    split at h
    · rename_i hc
      obtain ⟨h1, h2⟩ := hc
      have e := Option.some.inj h
      refine ⟨by rw [← e, List.length_map, h1], ?_⟩
      have e2 : bs.map numB = splitC 46 s := by
        rw [← e, List.map_map]
        conv => rhs; rw [← List.map_id (splitC 46 s)]
        refine List.map_congr_left (fun p hp => ?_)
        exact num_part4 p (List.all_eq_true.1 h2 p hp)
      rw [text4, e2, join_split]
    · cases h
  · rintro ⟨h1, rfl⟩
    have e := text4_split bs (by intro e; rw [e] at h1; cases h1)
    rw [e, if_pos ⟨by rw [List.length_map, h1], by
      rw [List.all_eq_true]
      intro p hp
      obtain ⟨b, _, rfl⟩ := List.mem_map.1 hp
      exact (part4_num b).1⟩, List.map_map]
    congr 1
    conv => rhs; rw [← List.map_id bs]
    exact List.map_congr_left (fun b _ => (part4_num b).2)
set_option maxRecDepth 100000 in
theorem rd6_iff (s bs : List UInt8) : rd6 s = some bs ↔ bs.length = 16 ∧ text6 bs = s := by
  unfold rd6
  constructor
  · intro h
    split at h
    · rename_i hc
      obtain ⟨h1, h2⟩ := hc
      have e := Option.some.inj h
      refine ⟨by rw [← e, put16_len, List.length_map, h1], ?_⟩
      have hv : ∀ n ∈ (splitC 58 s).map valG, n < 65536 := fun n hn => by
        obtain ⟨p, hp, rfl⟩ := List.mem_map.1 hn
        exact (hex_okG p (List.all_eq_true.1 h2 p hp)).2
      have e2 : (wordsL bs).map hexW = splitC 58 s := by
        rw [← e, put16_words _ hv, List.map_map, List.map_map]
        conv => rhs; rw [← List.map_id (splitC 58 s)]
        refine List.map_congr_left (fun p hp => ?_)
        exact (hex_okG p (List.all_eq_true.1 h2 p hp)).1
      rw [text6, e2, join_split]
    · cases h
  · rintro ⟨h1, rfl⟩
    have hl : (wordsL bs).length = 8 := by rw [wordsL_length, h1]
    have e := text6_split bs (by intro e; rw [e] at hl; cases hl)
    rw [e, if_pos ⟨by rw [List.length_map, hl], by
      rw [List.all_eq_true]
      intro p hp
      obtain ⟨n, hn, rfl⟩ := List.mem_map.1 hp
      exact (okG_hex _ (words_nat bs n hn)).1⟩, List.map_map]
    congr 1
    conv => rhs; rw [← words_put16 bs (by omega)]
    congr 1
    exact List.map_congr_left (fun n hn => (okG_hex _ (words_nat bs n hn)).2)
set_option maxRecDepth 100000 in
theorem rd6_mem {s bs : List UInt8} (h : rd6 s = some bs) : (58 : UInt8) ∈ s := by
  unfold rd6 at h
  split at h
  · rename_i hc
    exact split_mem 58 s (by omega)
  · cases h
set_option maxRecDepth 100000 in
theorem of4_text (bs : List UInt8) (h : bs.length = 4) : (ofA bs).ok = true ∧ (ofA bs).text = text4 bs ∧ (ofA bs).k = 4 := by
  rw [ofA_four h]
  have hb := be_le4 bs (by omega)
  have hok : (⟨4, 0, 0, 0, (be bs : Int)⟩ : Ad).ok = true := (Ad.ok_iff _).2 (.inl ⟨rfl, rfl, rfl, rfl, by simp, hb⟩)
  refine ⟨hok, ?_, rfl⟩
  unfold Ad.text
  rw [hok, if_pos rfl, if_pos rfl]
  show text4 (put32 (be bs)) = _
  rw [put32_be4 bs h]
set_option maxRecDepth 100000 in
theorem of6_text (bs : List UInt8) (h : bs.length = 16) : (ofA bs).ok = true ∧ (ofA bs).text = text6 bs ∧ (ofA bs).k = 6 := by
  rw [ofA_six h]
  have hok : (unw 6 bs).ok = true := (Ad.ok_iff _).2 (.inr ⟨rfl, ⟨by simp [unw], be_le4 _ (List.length_take_le _ _)⟩, ⟨by simp [unw], be_le4 _ (List.length_take_le _ _)⟩, ⟨by simp [unw], be_le4 _ (List.length_take_le _ _)⟩, by simp [unw], be_le4 _ (List.length_take_le _ _)⟩)
  refine ⟨hok, ?_, rfl⟩
  unfold Ad.text
  rw [hok, if_pos rfl, if_neg (show ¬ (unw 6 bs).k = 4 by simp [unw]), whole_unw 6 bs h]
set_option maxRecDepth 100000 in
/-- What is read is the address that has the text. -/
theorem rdA_iff (s : List UInt8) (x : Ad) : rdA s = some x ↔ x.ok = true ∧ x.text = s := by
  unfold rdA
  constructor
  · intro h
    split at h
    · obtain ⟨bs, h1, rfl⟩ := Option.map_eq_some_iff.1 h
      obtain ⟨hl, rfl⟩ := (rd6_iff s bs).1 h1
      exact ⟨(of6_text bs hl).1, (of6_text bs hl).2.1⟩
    · obtain ⟨bs, h1, rfl⟩ := Option.map_eq_some_iff.1 h
      obtain ⟨hl, rfl⟩ := (rd4_iff s bs).1 h1
      exact ⟨(of4_text bs hl).1, (of4_text bs hl).2.1⟩
  · rintro ⟨hok, rfl⟩
    rcases x.ok_kind hok with hk | hk
    · have e : x.text = text4 (put32 x.d) := by simp [Ad.text, hok, hk]
      rw [e, if_neg (text4_no _), (rd4_iff _ (put32 x.d)).2 ⟨rfl, rfl⟩]
      rw [Option.map_some, ofA_four rfl, be_put32 x.d (x.halves hok).2.2.2]
      have hz := x.ok_four hok hk
      congr 1
      cases x
      simp_all
    · have e : x.text = text6 x.whole := by simp [Ad.text, hok, hk]
      have h6 := (rd6_iff (text6 x.whole) x.whole).2 ⟨x.whole_length, rfl⟩
      rw [e, if_pos (rd6_mem h6), h6, Option.map_some, ofA_six x.whole_length, ← hk, unw_of_ok x hok]
end Go.Proofs.YtckakpcjbndijabDoor
namespace Go.Proofs.YtckakpcjbndijabDoor
open Go.RowKit

def NumPost (l : List UInt8) (w : World) (e : Ending) (w' : World) : Prop := e = .returned (.tuple #[.int .i64 (numR l), .bool (okNum l)]) ∧ Below w.heap.size w w'

set_option maxRecDepth 100000 in
theorem numPost_no {l : List UInt8} {w w' : World} (h : okNum l = false) (hb : Below w.heap.size w w') : NumPost l w (.returned (.tuple #[.int .i64 0, .bool false])) w' := by
  refine ⟨?_, hb⟩
  rw [numR, h]
  rfl
set_option maxRecDepth 100000 in
theorem numPost_yes {l : List UInt8} {w w' : World} (h : okNum l = true) (hb : Below w.heap.size w w') : NumPost l w (.returned (.tuple #[.int .i64 (val l : Int), .bool true])) w' := by
  refine ⟨?_, hb⟩
  rw [numR, h]
  rfl

set_option maxRecDepth 100000 in
theorem val_takeS (s : ByteArray) (k : Nat) (h : k < s.size) : val (s.data.toList.take (k + 1)) = 10 * val (s.data.toList.take k) + ((s[k]'h).toNat - 48) := val_take s.data.toList k h
set_option maxRecDepth 100000 in
theorem all_takeS (s : ByteArray) (k : Nat) (h : k < s.size) (ha : (s.data.toList.take k).all isDig = true) (hd : isDig (s[k]'h) = true) : (s.data.toList.take (k + 1)).all isDig = true := by
  rw [all_take s.data.toList k h, ha, Bool.true_and]
  exact hd
set_option maxRecDepth 100000 in
theorem okNum_digS (s : ByteArray) (k : Nat) (h : k < s.size) (hd : isDig (s[k]'h) = false) : okNum s.data.toList = false := okNum_dig s.data.toList k h hd

set_option maxRecDepth 100000 in
set_option maxHeartbeats 400000 in
theorem withinR_yes (n lo hi : Int) (w : World) (h1 : lo ≤ n) (h2 : n ≤ hi) :
    Calls Tryd.prog 73 #[.int .i32 n, .int .i32 lo, .int .i32 hi] w fun e w' => e = .returned (.bool true) ∧ w = w' := by
  have h3 : ¬ n < lo := by omega
  have h4 : ¬ hi < n := by omega
  go_enter Tryd.func73, Tryd.ntmps73
  go_wp2
  go_ret
  exact ⟨rfl, rfl⟩

set_option maxRecDepth 100000 in
set_option maxHeartbeats 400000 in
theorem withinR_no (n lo hi : Int) (w : World) (h : n < lo ∨ hi < n) :
    Calls Tryd.prog 73 #[.int .i32 n, .int .i32 lo, .int .i32 hi] w fun e w' => e = .returned (.bool false) ∧ w = w' := by
  by_cases h1 : n < lo
  · have h2 : (lo == n) = false := by simp; omega
    go_enter Tryd.func73, Tryd.ntmps73
    go_wp2
    go_ret
    exact ⟨rfl, rfl⟩
  · have h3 : hi < n := by omega
    have h2 : (hi == n) = false := by simp; omega
    go_enter Tryd.func73, Tryd.ntmps73
    go_wp2
    go_ret
    exact ⟨rfl, rfl⟩

set_option maxRecDepth 100000 in
set_option maxHeartbeats 1000000 in
theorem implNumRead_len (s : ByteArray) (w : World) (hs : s.size ≤ 1048576) (h : ¬ (1 ≤ s.size ∧ s.size ≤ 12)) :
    Calls Tryd.prog 46 #[.string s] w (NumPost s.data.toList w) := by
  have hno := Lib.hid (show (s.size : Int) < 1 ∨ (12 : Int) < s.size by omega)
  have hok := Lib.hid (okNum_len s.data.toList h)
  clear h
  go_enter Tryd.func46, Tryd.ntmps46
  go_wp2_with (go_at_call 70; refine (within_no _ _ _ _ hno.out).mono ?_; rintro e w' ⟨rfl, rfl⟩)
  go_ret2
  exact numPost_no hok.out (Below.refl _ _)

set_option maxRecDepth 100000 in
set_option maxHeartbeats 1000000 in
theorem implNumRead_zero (s : ByteArray) (w : World) (h1 : 1 < s.size) (h2 : s.size ≤ 12) (h0 : s[0].toNat = 48) :
    Calls Tryd.prog 46 #[.string s] w (NumPost s.data.toList w) := by
  have hok := Lib.hid (okNum_zero s.data.toList h1 (by
    rw [List.head?_eq_getElem?, List.getElem?_eq_getElem (by simpa using (show 0 < s.size by omega))]
    have : s.data.toList[0]'(by simpa using (show 0 < s.size by omega)) = s[0] := rfl
    rw [this]
    have e : s[0] = 48 := UInt8.toNat_inj.1 h0
    rw [e]))
  have h48 : ((s[0].toNat : Int) == 48) = true := by simp; omega
  clear h0
  go_enter Tryd.func46, Tryd.ntmps46
  go_wp2_with (go_at_call 70; refine (within_yes _ _ _ _ (by omega) (by omega)).mono ?_; rintro e w' ⟨rfl, rfl⟩)
  go_ret2
  exact numPost_no hok.out (Below.refl _ _)

set_option maxRecDepth 100000 in
set_option maxHeartbeats 1000000 in
theorem implNumRead_loop (s : ByteArray) (w : World) (h1 : 1 ≤ s.size) (h2 : s.size ≤ 12) (h0 : s.size = 1 ∨ s[0].toNat ≠ 48) :
    Calls Tryd.prog 46 #[.string s] w (NumPost s.data.toList w) := by
  have hhead := Lib.hid (show s.data.toList.length = 1 ∨ s.data.toList.head? ≠ some 48 by
    rcases h0 with h | h
    · exact .inl h
    · right
      intro e
      apply h
      rw [List.head?_eq_getElem?, List.getElem?_eq_getElem (by simpa using (show 0 < s.size by omega))] at e
      have e2 : s.data.toList[0]'(by simpa using (show 0 < s.size by omega)) = s[0] := rfl
      rw [e2] at e
      injection e with e
      rw [e]
      rfl)
  have h48 : s.size ≠ 1 → ((s[0].toNat : Int) == 48) = false := by intro h; simp; omega
  by_cases hone : s.size = 1
  · have hgt : ¬ (1 : Int) < s.size := by omega
    clear h0 h48
    go_enter Tryd.func46, Tryd.ntmps46
    go_wp2_with (go_at_call 70; refine (within_yes _ _ _ _ (by omega) (by omega)).mono ?_; rintro e w' ⟨rfl, rfl⟩)
    go_loopw [4] (fun q wr => ∃ k : Nat, k ≤ s.size ∧ q = .int .i64 (val (s.data.toList.take k) : Int) ∧ (s.data.toList.take k).all isDig = true ∧ wr.heap[w.heap.size]? = some (.stringIter s k) ∧ Below w.heap.size w wr) (fun _ wr => s.size - wr.iterPos w.heap.size)
    case atStart => exact ⟨0, Nat.zero_le _, rfl, rfl, World.iter_heap _ _ _, (Below.refl _ _).alloc (Nat.le_refl _) _⟩
    case round =>
      obtain ⟨k, hk, rfl, hall, hit, hb⟩ := hrel
      have hsz : w.heap.size < wr.heap.size := (Array.getElem?_eq_some_iff.1 hit).1
      have hv := val_lt (s.data.toList.take k) hall (Nat.le_trans (List.length_take_le _ _) (by omega))
      by_cases hlt : k < s.size
      · have hl : k < s.data.toList.length := by simpa using hlt
        by_cases hdig : isDig (s[k]'hlt) = true
        · have hd := isDig_of _ hdig
          have hnx : ∀ ty, (Instr.next (.pointer (some ⟨w.heap.size, 0, none⟩)) true ty).run Tryd.prog wr = _ := fun ty => Lib.run_next_ascii_at wr w.heap.size s k ty hit hlt (by omega)
          have hit2 := Lib.hid (Lib.iterAt_heap wr w.heap.size s k (k + 1) hit)
          have hb2 := Lib.hid (Lib.below_iterAt hb (k := w.heap.size) (Nat.le_refl _) s (k + 1))
          have hvt := Lib.hid (val_takeS s k hlt)
          have hat := Lib.hid (all_takeS s k hlt hall hdig)
          have hit := Lib.hid hit
          clear hall
          go_wp2_with (go_at_call 73; refine (withinR_yes _ _ _ _ (by omega) (by omega)).mono ?_; rintro e w' ⟨rfl, rfl⟩)
          go_roundw
          case rel => exact ⟨k + 1, by omega, by rw [hvt.out]; go_num, hat.out, hit2.out, hb2.out⟩
          case measure => simp only [World.iterPos, hit2.out, hit.out]; omega
        · have hok := Lib.hid (okNum_digS s k hlt (by simpa using hdig))
          have hno : ∃ r : Nat, (Utf8.decode s k).1 = r ∧ (r < 48 ∨ 57 < r) ∧ r ≤ 2147483647 := by
            refine ⟨_, rfl, ?_, decode_le s k⟩
            by_cases ha : (s[k]'hlt).toNat < 128
            · rw [decode_ascii s k hlt ha]
              simp only [isDig, decide_eq_true_eq] at hdig
              omega
            · have := (decode_high s k hlt (by omega)).1
              omega
          obtain ⟨r, hr, hr2, hr3⟩ := hno
          have hnx : ∀ ty, (Instr.next (.pointer (some ⟨w.heap.size, 0, none⟩)) true ty).run Tryd.prog wr = .ok (.tuple #[.bool true, .int .i64 k, .int .i32 r]) (wr.iterAt w.heap.size s (k + (Utf8.decode s k).2)) := fun ty => by
            rw [← hr]
            exact Lib.run_next_any_at wr w.heap.size s k ty hit hlt
          have hb2 := Lib.hid (Lib.below_iterAt hb (k := w.heap.size) (Nat.le_refl _) s (k + (Utf8.decode s k).2))
          have hr4 := Lib.hid (show (r : Int) < 48 ∨ (57 : Int) < r by omega)
          clear hr hr2 hit hdig hall
          go_wp2_with (go_at_call 73; refine (withinR_no _ _ _ _ hr4.out).mono ?_; rintro e w' ⟨rfl, rfl⟩)
          go_ret2
          exact numPost_no hok.out hb2.out
      · obtain rfl : k = s.size := by omega
        have hnx : ∀ ty, (Instr.next (.pointer (some ⟨w.heap.size, 0, none⟩)) true ty).run Tryd.prog wr = _ := fun ty => Lib.run_next_end_at wr w.heap.size s s.size ty hit hlt
        have hfull : s.data.toList.take s.size = s.data.toList := List.take_of_length_le (by simp)
        rw [hfull] at hall
        have hok := Lib.hid (okNum_yes s.data.toList h1 h2 hall hhead.out)
        rw [hfull]
        clear hall hfull
        go_wp2
        go_ret2
        exact numPost_yes hok.out hb
  · have h48 := h48 hone
    have hgt : (1 : Int) < s.size := by omega
    clear h0
    go_enter Tryd.func46, Tryd.ntmps46
    go_wp2_with (go_at_call 70; refine (within_yes _ _ _ _ (by omega) (by omega)).mono ?_; rintro e w' ⟨rfl, rfl⟩)
    go_loopw [4] (fun q wr => ∃ k : Nat, k ≤ s.size ∧ q = .int .i64 (val (s.data.toList.take k) : Int) ∧ (s.data.toList.take k).all isDig = true ∧ wr.heap[w.heap.size]? = some (.stringIter s k) ∧ Below w.heap.size w wr) (fun _ wr => s.size - wr.iterPos w.heap.size)
    case atStart => exact ⟨0, Nat.zero_le _, rfl, rfl, World.iter_heap _ _ _, (Below.refl _ _).alloc (Nat.le_refl _) _⟩
    case round =>
      obtain ⟨k, hk, rfl, hall, hit, hb⟩ := hrel
      have hsz : w.heap.size < wr.heap.size := (Array.getElem?_eq_some_iff.1 hit).1
      have hv := val_lt (s.data.toList.take k) hall (Nat.le_trans (List.length_take_le _ _) (by omega))
      by_cases hlt : k < s.size
      · have hl : k < s.data.toList.length := by simpa using hlt
        by_cases hdig : isDig (s[k]'hlt) = true
        · have hd := isDig_of _ hdig
          have hnx : ∀ ty, (Instr.next (.pointer (some ⟨w.heap.size, 0, none⟩)) true ty).run Tryd.prog wr = _ := fun ty => Lib.run_next_ascii_at wr w.heap.size s k ty hit hlt (by omega)
          have hit2 := Lib.hid (Lib.iterAt_heap wr w.heap.size s k (k + 1) hit)
          have hb2 := Lib.hid (Lib.below_iterAt hb (k := w.heap.size) (Nat.le_refl _) s (k + 1))
          have hvt := Lib.hid (val_takeS s k hlt)
          have hat := Lib.hid (all_takeS s k hlt hall hdig)
          have hit := Lib.hid hit
          clear hall
          go_wp2_with (go_at_call 73; refine (withinR_yes _ _ _ _ (by omega) (by omega)).mono ?_; rintro e w' ⟨rfl, rfl⟩)
          go_roundw
          case rel => exact ⟨k + 1, by omega, by rw [hvt.out]; go_num, hat.out, hit2.out, hb2.out⟩
          case measure => simp only [World.iterPos, hit2.out, hit.out]; omega
        · have hok := Lib.hid (okNum_digS s k hlt (by simpa using hdig))
          have hno : ∃ r : Nat, (Utf8.decode s k).1 = r ∧ (r < 48 ∨ 57 < r) ∧ r ≤ 2147483647 := by
            refine ⟨_, rfl, ?_, decode_le s k⟩
            by_cases ha : (s[k]'hlt).toNat < 128
            · rw [decode_ascii s k hlt ha]
              simp only [isDig, decide_eq_true_eq] at hdig
              omega
            · have := (decode_high s k hlt (by omega)).1
              omega
          obtain ⟨r, hr, hr2, hr3⟩ := hno
          have hnx : ∀ ty, (Instr.next (.pointer (some ⟨w.heap.size, 0, none⟩)) true ty).run Tryd.prog wr = .ok (.tuple #[.bool true, .int .i64 k, .int .i32 r]) (wr.iterAt w.heap.size s (k + (Utf8.decode s k).2)) := fun ty => by
            rw [← hr]
            exact Lib.run_next_any_at wr w.heap.size s k ty hit hlt
          have hb2 := Lib.hid (Lib.below_iterAt hb (k := w.heap.size) (Nat.le_refl _) s (k + (Utf8.decode s k).2))
          have hr4 := Lib.hid (show (r : Int) < 48 ∨ (57 : Int) < r by omega)
          clear hr hr2 hit hdig hall
          go_wp2_with (go_at_call 73; refine (withinR_no _ _ _ _ hr4.out).mono ?_; rintro e w' ⟨rfl, rfl⟩)
          go_ret2
          exact numPost_no hok.out hb2.out
      · obtain rfl : k = s.size := by omega
        have hnx : ∀ ty, (Instr.next (.pointer (some ⟨w.heap.size, 0, none⟩)) true ty).run Tryd.prog wr = _ := fun ty => Lib.run_next_end_at wr w.heap.size s s.size ty hit hlt
        have hfull : s.data.toList.take s.size = s.data.toList := List.take_of_length_le (by simp)
        rw [hfull] at hall
        have hok := Lib.hid (okNum_yes s.data.toList h1 h2 hall hhead.out)
        rw [hfull]
        clear hall hfull
        go_wp2
        go_ret2
        exact numPost_yes hok.out hb

set_option maxRecDepth 100000 in
set_option maxHeartbeats 1000000 in
theorem specNumRead (s : ByteArray) (w : World) (hs : s.size ≤ 1048576) :
    Calls Tryd.prog 44 #[.string s] w (NumPost s.data.toList w) := by
  by_cases hlo : s.size < 1
  · have hok := Lib.hid (okNum_len s.data.toList (show ¬ (1 ≤ s.size ∧ s.size ≤ 12) by omega))
    go_enter Tryd.func44, Tryd.ntmps44
    go_wp2
    go_ret2
    exact numPost_no hok.out (Below.refl _ _)
  · by_cases hhi : 12 < s.size
    · have hok := Lib.hid (okNum_len s.data.toList (show ¬ (1 ≤ s.size ∧ s.size ≤ 12) by omega))
      go_enter Tryd.func44, Tryd.ntmps44
      go_wp2
      go_ret2
      exact numPost_no hok.out (Below.refl _ _)
    · go_enter Tryd.func44, Tryd.ntmps44
      go_wp2
      go_loop [4, 5] (fun q i => ∃ k : Nat, k ≤ s.size ∧ i = .int .i64 k ∧ q = .int .i64 (val (s.data.toList.take k) : Int) ∧ (s.data.toList.take k).all isDig = true) (fun _ i => s.size - (intOf i).toNat)
      case atStart => exact ⟨0, Nat.zero_le _, rfl, rfl, rfl⟩
      case round =>
        obtain ⟨k, hk, rfl, rfl, hall⟩ := hrel
        have hv := val_lt (s.data.toList.take k) hall (Nat.le_trans (List.length_take_le _ _) (by omega))
        by_cases hlt : k < s.size
        · by_cases hdig : isDig (s[k]'hlt) = true
          · have hd := isDig_of _ hdig
            have hvt := Lib.hid (val_takeS s k hlt)
            have hat := Lib.hid (all_takeS s k hlt hall hdig)
            have hd1 : ¬ ((s[k]'hlt).toNat : Int) < 48 := by omega
            have hd2 : ¬ (57 : Int) < ((s[k]'hlt).toNat : Int) := by omega
            clear hall hdig
            go_wp2
            go_round
            case rel => exact ⟨k + 1, by omega, by go_num, by rw [hvt.out]; go_num, hat.out⟩
            case measure => simp [intOf]; omega
          · have hok := Lib.hid (okNum_digS s k hlt (by simpa using hdig))
            simp only [isDig, decide_eq_true_eq] at hdig
            by_cases hd1 : ((s[k]'hlt).toNat : Int) < 48
            · clear hall hdig
              go_wp2
              go_ret2
              exact numPost_no hok.out (Below.refl _ _)
            · have hd2 : (57 : Int) < ((s[k]'hlt).toNat : Int) := by omega
              clear hall hdig
              go_wp2
              go_ret2
              exact numPost_no hok.out (Below.refl _ _)
        · obtain rfl : k = s.size := by omega
          have hfull : s.data.toList.take s.size = s.data.toList := List.take_of_length_le (by simp)
          rw [hfull] at hall hv
          rw [hfull]
          have hall := Lib.hid hall
          clear hfull
          by_cases heq : numText (val s.data.toList : Int) = s.data.toList
          · have h3 : s.data.toList.length = 1 ∨ s.data.toList.head? ≠ some 48 := by
              by_cases h3 : s.data.toList.length = 1
              · exact .inl h3
              · right
                intro h4
                exact numText_not s.data.toList (show 1 < s.size by have : s.size ≠ 1 := h3; omega) h4 heq
            have hok := Lib.hid (okNum_yes s.data.toList (show 1 ≤ s.size by omega) (show s.size ≤ 12 by omega) hall.out h3)
            have hsame : (!(strOf (numText (val s.data.toList : Int))).toList == s.toList) = false := by rw [heq, strOf_toList]; simp
            clear heq h3
            go_wp2_with (go_at_call 29; refine (specNumText _ _ (by omega)).mono ?_; rintro e w1 ⟨rfl, hb1⟩)
            go_ret2
            exact numPost_yes hok.out hb1
          · have hok := Lib.hid (show okNum s.data.toList = false by
              rcases Bool.eq_false_or_eq_true (okNum s.data.toList) with h | h
              · simp only [okNum, Bool.and_eq_true, Bool.or_eq_true, decide_eq_true_eq] at h
                exact absurd (numText_val s.data.toList h.1.2 h.1.1.1 h.2) heq
              · exact h)
            have hsame : (!(strOf (numText (val s.data.toList : Int))).toList == s.toList) = true := by
              simp
              intro e
              apply heq
              rw [ByteArray.toList_eq, ByteArray.toList_eq] at e
              exact e
            clear heq
            go_wp2_with (go_at_call 29; refine (specNumText _ _ (by omega)).mono ?_; rintro e w1 ⟨rfl, hb1⟩)
            go_ret2
            exact numPost_no hok.out hb1

set_option maxRecDepth 100000 in
theorem implNumRead (s : ByteArray) (w : World) (hs : s.size ≤ 1048576) : Calls Tryd.prog 46 #[.string s] w (NumPost s.data.toList w) := by
  by_cases h : 1 ≤ s.size ∧ s.size ≤ 12
  · by_cases h0 : s.size = 1 ∨ (s[0]'(by omega)).toNat ≠ 48
    · exact implNumRead_loop s w h.1 h.2 h0
    · exact implNumRead_zero s w (by omega) h.2 (by omega)
  · exact implNumRead_len s w hs h
end Go.Proofs.YtckakpcjbndijabDoor
namespace Go.Proofs.YtckakpcjbndijabDoor
open Go.RowKit

def HexPost (l : List UInt8) (w : World) (e : Ending) (w' : World) : Prop :=
  ∃ A c, e = .returned (.tuple #[.slice A (hexR l).length c, .bool (okHex l)]) ∧ w'.ownsRow w.heap.size 5 1 (.slice A (hexR l).length c) (hexR l).length (cellsOf (hexR l)) ∧ Below w.heap.size w w'

set_option maxRecDepth 100000 in
theorem hexPost_no {l : List UInt8} {w w' : World} (h : okHex l = false) (hb : Below w.heap.size w w') : HexPost l w (.returned (.tuple #[.slice none 0 0, .bool false])) w' := by
  refine ⟨none, 0, ?_, ?_, hb⟩
  · rw [hexR, h]; rfl
  · rw [hexR, h]; exact World.ownsRow_nil _ _ _ _
set_option maxRecDepth 100000 in
theorem hexPost_yes {l : List UInt8} {w w' : World} {A : Option Addr} {n c : Nat} (h : okHex l = true) (hn : n = l.length / 2) (ho : w'.ownsRow w.heap.size 5 1 (.slice A n c) n (cellsOf (hexBytes l))) (hb : Below w.heap.size w w') :
    HexPost l w (.returned (.tuple #[.slice A n c, .bool true])) w' := by
  have e : hexR l = hexBytes l := by rw [hexR, h]; rfl
  refine ⟨A, c, ?_, ?_, hb⟩
  · rw [e, hexBytes_length, h, hn]
  · rw [e, hexBytes_length, ← hn]; exact ho

set_option maxRecDepth 100000 in
set_option maxHeartbeats 400000 in
theorem implDigit (b : UInt8) (w : World) (h : hexV b < 16) :
    Calls Tryd.prog 91 #[.int .i32 (b.toNat : Int)] w fun e w' => e = .returned (.tuple #[.int .u8 (hexV b : Int), .bool true]) ∧ w = w' := by
  by_cases h1 : 48 ≤ b.toNat ∧ b.toNat ≤ 57
  · have hv : hexV b = b.toNat - 48 := by rw [hexV, if_pos h1]
    rw [hv]
    obtain ⟨h2, h3⟩ := h1
    clear hv h
    go_enter Tryd.func91, Tryd.ntmps91
    go_wp2_with (go_at_call 73; refine (withinR_yes _ _ _ _ (by omega) (by omega)).mono ?_; rintro e w' ⟨rfl, rfl⟩)
    go_ret2
    refine ⟨?_, rfl⟩
    rw [show ((b.toNat - 48 : Nat) : Int) = (b.toNat : Int) - 48 by omega]
    rfl
  · by_cases h4 : 97 ≤ b.toNat ∧ b.toNat ≤ 102
    · have hv : hexV b = b.toNat - 87 := by rw [hexV, if_neg h1, if_pos h4]
      rw [hv]
      obtain ⟨h2, h3⟩ := h4
      have hno := Lib.hid (show (b.toNat : Int) < 48 ∨ (57 : Int) < b.toNat by omega)
      clear hv h h1
      go_enter Tryd.func91, Tryd.ntmps91
      go_wp2_with fail
      refine (withinR_no _ _ _ _ hno.out).mono ?_
      rintro e w' ⟨rfl, rfl⟩
      go_wp2_with fail
      refine (withinR_yes _ _ _ _ (by omega) (by omega)).mono ?_
      rintro e w' ⟨rfl, rfl⟩
      go_wp2
      go_ret2
      refine ⟨?_, rfl⟩
      rw [show ((b.toNat - 87 : Nat) : Int) = (b.toNat : Int) - 97 + 10 by omega]
      rfl
    · rw [hexV, if_neg h1, if_neg h4] at h
      omega

set_option maxRecDepth 100000 in
set_option maxHeartbeats 400000 in
theorem implDigit_no (r : Int) (w : World) (h1 : r < 48 ∨ 57 < r) (h2 : r < 97 ∨ 102 < r) :
    Calls Tryd.prog 91 #[.int .i32 r] w fun e w' => e = .returned (.tuple #[.int .u8 0, .bool false]) ∧ w = w' := by
  have H1 := Lib.hid h1
  have H2 := Lib.hid h2
  clear h1 h2
  go_enter Tryd.func91, Tryd.ntmps91
  go_wp2_with fail
  refine (withinR_no _ _ _ _ H1.out).mono ?_
  rintro e w' ⟨rfl, rfl⟩
  go_wp2_with fail
  refine (withinR_no _ _ _ _ H2.out).mono ?_
  rintro e w' ⟨rfl, rfl⟩
  go_wp2
  go_ret2
  exact ⟨rfl, rfl⟩

set_option maxRecDepth 100000 in
theorem or_nib (x d : Nat) (hx : x < 16) (hd : d < 16) : bits .or .u8 ((x : Int) * 16) (d : Int) = (x : Int) * 16 + d := by
  have e : ((x : Int) * 16) = ((16 * x : Nat) : Int) := by omega
  have ho : 16 * x ||| d = 16 * x + d := (Nat.two_pow_add_eq_or_of_lt (i := 4) (by simpa using hd) x).symm
  have t : ∀ n : Nat, n < 256 → (BitVec.ofInt 8 (n : Int)).toNat = n := fun n hn => by
    rw [BitVec.ofInt_natCast, BitVec.toNat_ofNat]
    exact Nat.mod_eq_of_lt (by omega)
  rw [e]
  show IntKind.u8.wrap ((BitVec.ofInt 8 ((16 * x : Nat) : Int) ||| BitVec.ofInt 8 (d : Int)).toNat : Int) = _
  rw [BitVec.toNat_or, t _ (by omega), t d (by omega), ho, IntKind.wrap_u8]
  omega

set_option maxRecDepth 100000 in
theorem grown_iterAt (w : World) (k : Nat) (s : ByteArray) (pos : Nat) : w.grownBy (w.iterAt k s pos) (some k) :=
  ⟨rfl, rfl, rfl, by rw [Lib.iterAt_size]; exact Nat.le_refl _, fun i _ hne => Lib.iterAt_other w k i s pos (fun e => hne (by rw [e]))⟩

set_option maxRecDepth 100000 in
theorem cell_byte (n : Nat) (h : n < 256) : ((UInt8.ofNat n).toNat : Int) = n := by
  simp
  omega

set_option maxRecDepth 100000 in
theorem hexAtS (s : ByteArray) (i : Nat) (h : i < s.size) : hexAt s.data.toList i = hexV (s[i]'h) := hexAt_get s.data.toList i h
set_option maxRecDepth 100000 in
theorem okHex_badS (s : ByteArray) (i : Nat) (h : i < s.size) (hb : ¬ hexV (s[i]'h) < 16) : okHex s.data.toList = false := okHex_bad s.data.toList i h hb

set_option maxRecDepth 100000 in
theorem hexRow_stored (l : List UInt8) (i x d : Nat) (hx : hexSt l i (i / 2) = x) (hd : hexAt l i = d) (h1 : x < 16) (h2 : d < 16) :
    (cellsOf (hexRow l i)).set (i / 2) (.int .u8 ((x : Int) * 16 + d)) = cellsOf (hexRow l (i + 1)) := by
  rw [← hexRow_step, hx, hd]
  have e : (((UInt8.ofNat (16 * x + d)).toNat : Nat) : Int) = (x : Int) * 16 + d := by rw [cell_byte _ (by omega)]; omega
  rw [← e]
  simp [cellsOf, List.map_set]

end Go.Proofs.YtckakpcjbndijabDoor
namespace Go.Proofs.YtckakpcjbndijabDoor
open Go.RowKit

/-- The model's search: the digit below k that a is, or -1. -/
def seen (a : UInt8) (k : Nat) : Int := if hexV a < k ∧ hexV a < 16 then (hexV a : Int) else -1
set_option maxRecDepth 100000 in
theorem seen_zero (a : UInt8) : seen a 0 = -1 := by rw [seen, if_neg (by omega)]
set_option maxRecDepth 100000 in
theorem seen_hit (a : UInt8) (k : Nat) (h : k < 16) (e : a.toNat = (hexDig k).toNat) : seen a (k + 1) = k := by
  have e1 := (hexV_dig k h a).1 e
  rw [seen, if_pos (by omega), e1]
set_option maxRecDepth 100000 in
theorem seen_miss (a : UInt8) (k : Nat) (h : k < 16) (e : ¬ a.toNat = (hexDig k).toNat) : seen a (k + 1) = seen a k := by
  have e1 : ¬ hexV a = k := fun h1 => e ((hexV_dig k h a).2 h1)
  unfold seen
  by_cases hc : hexV a < k ∧ hexV a < 16
  · rw [if_pos hc, if_pos (by omega)]
  · rw [if_neg hc, if_neg (by omega)]

/-- The value of digits to a base. -/
def valB (B : Nat) (l : List UInt8) : Nat := l.foldl (fun n b => B * n + hexV b) 0
set_option maxRecDepth 100000 in
theorem valB_snoc (B : Nat) (l : List UInt8) (b : UInt8) : valB B (l ++ [b]) = B * valB B l + hexV b := by simp [valB]
set_option maxRecDepth 100000 in
theorem valB_takeS (B : Nat) (s : ByteArray) (k : Nat) (h : k < s.size) : valB B (s.data.toList.take (k + 1)) = B * valB B (s.data.toList.take k) + hexV (s[k]'h) := by
  rw [take_snoc s.data.toList k h, valB_snoc]
  rfl
set_option maxRecDepth 100000 in
theorem valB_lt (B : Nat) (hB : B ≤ 16) (l : List UInt8) (h : ∀ b ∈ l, hexV b < B) : valB B l < 16 ^ l.length := by
  obtain ⟨n, hn⟩ : ∃ n, l.length = n := ⟨_, rfl⟩
  induction n generalizing l with
  | zero =>
    obtain rfl : l = [] := List.eq_nil_of_length_eq_zero hn
    simp [valB]
  | succ n ih =>
    obtain ⟨i, b, rfl⟩ : ∃ i b, l = i ++ [b] := by
      rcases List.eq_nil_or_concat l with h | ⟨i, b, h⟩
      · rw [h] at hn; cases hn
      · exact ⟨i, b, by rw [h, List.concat_eq_append]⟩
    have h1 := ih i (fun c hc => h c (by simp [hc])) (by simp at hn; omega)
    have h2 := h b (by simp)
    rw [valB_snoc, List.length_append, List.length_singleton, Nat.pow_succ]
    have h3 : B * valB B i ≤ 16 * valB B i := Nat.mul_le_mul_right _ hB
    omega
def vB (B : Nat) (l : List UInt8) : Int := if 1 ≤ l.length ∧ l.length ≤ 4 ∧ l.all (fun b => decide (hexV b < B)) = true then (valB B l : Int) else -1
set_option maxRecDepth 100000 in
theorem vB_len (B : Nat) (l : List UInt8) (h : ¬ (1 ≤ l.length ∧ l.length ≤ 4)) : vB B l = -1 := by rw [vB, if_neg (fun c => h ⟨c.1, c.2.1⟩)]
set_option maxRecDepth 100000 in
theorem vB_bad (B : Nat) (s : ByteArray) (k : Nat) (h : k < s.size) (hd : ¬ hexV (s[k]'h) < B) : vB B s.data.toList = -1 := by
  have : (s.data.toList.all fun b => decide (hexV b < B)) = false := by
    rw [List.all_eq_false]
    exact ⟨s[k], List.getElem_mem (l := s.data.toList) h, by simpa using hd⟩
  rw [vB, this, if_neg (by simp)]
set_option maxRecDepth 100000 in
theorem vB_yes (B : Nat) (l : List UInt8) (h1 : 1 ≤ l.length) (h2 : l.length ≤ 4) (hd : ∀ b ∈ l, hexV b < B) : vB B l = valB B l := by
  rw [vB, if_pos ⟨h1, h2, List.all_eq_true.2 (fun b hb => by simpa using hd b hb)⟩]
set_option maxRecDepth 100000 in
theorem take_allB (B : Nat) (s : ByteArray) (k : Nat) (h : k < s.size) (ha : ∀ b ∈ s.data.toList.take k, hexV b < B) (hd : hexV (s[k]'h) < B) : ∀ b ∈ s.data.toList.take (k + 1), hexV b < B := by
  intro b hb
  rw [take_snoc s.data.toList k h] at hb
  rcases List.mem_append.1 hb with h1 | h1
  · exact ha b h1
  · rw [List.mem_singleton.1 h1]
    exact hd
set_option maxRecDepth 100000 in
theorem index_strB (s : ByteArray) (p : Nat) (h : p < s.size) (w : World) : (Instr.index 9 (.string s) (.int .i64 (p : Int))).run Tryd.prog w = .ok (.int .u8 ((s[p]'h).toNat : Int)) w := by
  rw [run_index_string _ _ _ _ _ Tryd.underlying9, dif_pos (by omega)]
  simp
set_option maxRecDepth 100000 in
theorem quiet_ownB {P : Program} {f : FuncId} {args : Array Value} {w : World} {n : Nat} {v : Value} (h : Calls P f args (w.drewN n) fun e w' => e = .returned v ∧ w.drewN n = w') :
    Calls P f args (w.drewN n) fun e w'' => e = .returned v ∧ ∃ m, w'' = w.drewN m := h.mono fun _ _ ⟨he, hm⟩ => ⟨he, n, hm.symm⟩
def ValOut (B : Nat) (l : List UInt8) (w : World) (e : Ending) (w' : World) : Prop := e = .returned (.int .i64 (vB B l)) ∧ Below w.heap.size w w'
set_option maxRecDepth 100000 in
theorem valOut_of {B : Nat} {l : List UInt8} {n : Int} {w w' : World} (h : vB B l = n) (hb : Below w.heap.size w w') : ValOut B l w (.returned (.int .i64 n)) w' := by
  subst h
  exact ⟨rfl, hb⟩

set_option maxRecDepth 100000 in
set_option maxHeartbeats 400000 in
theorem specValue_len (B : Nat) (s : ByteArray) (w : World) (hs : s.size ≤ 1048576) (h : ¬ (1 ≤ s.size ∧ s.size ≤ 4)) : Calls Tryd.prog 36 #[.string s, .int .i64 (B : Int)] w (ValOut B s.data.toList w) := by
  have hok := Lib.hid (vB_len B s.data.toList h)
  by_cases h1 : (s.size : Int) < 1
  · clear h
    go_enter Tryd.func36, Tryd.ntmps36
    go_wp2
    go_ret
    exact valOut_of hok.out (Below.refl _ _)
  · have h2 : (4 : Int) < (s.size : Int) := by omega
    clear h
    go_enter Tryd.func36, Tryd.ntmps36
    go_wp2
    go_ret
    exact valOut_of hok.out (Below.refl _ _)

set_option maxRecDepth 100000 in
set_option maxHeartbeats 2000000 in
theorem specValue_go (B : Nat) (s : ByteArray) (w : World) (hB : B ≤ 16) (hB1 : 1 ≤ B) (h1 : 1 ≤ s.size) (h4 : s.size ≤ 4) : Calls Tryd.prog 36 #[.string s, .int .i64 (B : Int)] w (ValOut B s.data.toList w) := by
  have g1 : ¬ (s.size : Int) < 1 := by omega
  have g2 : ¬ (4 : Int) < (s.size : Int) := by omega
  go_enter Tryd.func36, Tryd.ntmps36
  go_wp2
  go_loopw [5, 6] (fun v q wr => ∃ i V : Nat, i ≤ s.size ∧ q = .int .i64 (i : Int) ∧ v = .int .i64 (V : Int) ∧ Hid (V = valB B (s.data.toList.take i)) ∧ Hid (∀ b ∈ s.data.toList.take i, hexV b < B) ∧ Hid (Below w.heap.size w wr)) (fun _ q _ => s.size - (intOf q).toNat)
  case atStart => exact ⟨0, 0, Nat.zero_le _, rfl, rfl, Lib.hid rfl, Lib.hid (by simp), Lib.hid (Below.refl _ _)⟩
  case round =>
    obtain ⟨i, V, hi, rfl, rfl, hV, hall, hb⟩ := hrel
    by_cases hlt : i < s.size
    · have hltI : (i : Int) < (s.size : Int) := by omega
      have hV4 : V < 4096 := by
        have h := valB_lt B hB _ hall.out
        have hl : (s.data.toList.take i).length ≤ 3 := Nat.le_trans (List.length_take_le _ _) (by omega)
        have := Nat.pow_le_pow_right (show 0 < 16 by omega) hl
        rw [hV.out]
        omega
      obtain ⟨a, ha⟩ : ∃ a : UInt8, a = s[i]'hlt := ⟨_, rfl⟩
      have hxa : ∀ w, (Instr.index 9 (.string s) (.int .i64 (i : Int))).run Tryd.prog w = .ok (.int .u8 (a.toNat : Int)) w := fun w => by rw [ha]; exact index_strB s i hlt w
      have Ha := Lib.hid ha
      clear ha
      go_wp2
      go_loopw [7, 8] (fun nq kq wr => ∃ k : Nat, k ≤ B ∧ kq = .int .i64 (k : Int) ∧ nq = .int .i64 (seen a k) ∧ Hid (Below w.heap.size w wr)) (fun _ kq _ => B - (intOf kq).toNat)
      case atStart => exact ⟨0, Nat.zero_le _, rfl, by rw [seen_zero], hb⟩
      case round =>
        obtain ⟨k, hk, rfl, rfl, hbi⟩ := hrel
        clear hb
        by_cases hkB : k < B
        · have hkI : (k : Int) < (B : Int) := by omega
          have hk16 : k < 16 := by omega
          by_cases e1 : a.toNat = (hexDig k).toNat
          · have e1' : ((a.toNat : Int) == ((hexDig k).toNat : Int)) = true := by simp; omega
            have E := Lib.hid (seen_hit a k hk16 e1)
            clear e1
            go_wp2
            go_quiet ((go_at_call 58; with_reducible exact quiet_ownB (specDigitN k _ hk16)))
            go_wp2
            go_roundw
            case rel => exact ⟨k + 1, by omega, by go_num, by rw [E.out], Lib.hid (below_drewN hbi.out _)⟩
            case measure => simp [intOf]; omega
          · have e1' : ((a.toNat : Int) == ((hexDig k).toNat : Int)) = false := by simp; omega
            have E := Lib.hid (seen_miss a k hk16 e1)
            clear e1
            go_wp2
            go_quiet ((go_at_call 58; with_reducible exact quiet_ownB (specDigitN k _ hk16)))
            go_wp2
            go_roundw
            case rel => exact ⟨k + 1, by omega, by go_num, by rw [E.out], Lib.hid (below_drewN hbi.out _)⟩
            case measure => simp [intOf]; omega
        · obtain rfl : k = B := by omega
          have hkI : ¬ (k : Int) < (k : Int) := by omega
          by_cases hv : hexV a < k
          · obtain ⟨D, hD⟩ : ∃ D, D = hexV a := ⟨_, rfl⟩
            have es : seen a k = (D : Int) := by rw [seen, if_pos (by omega), hD]
            rw [es]
            have hD16 : D < 16 := by omega
            have hm := Nat.mul_le_mul hB (show V ≤ 4096 by omega)
            have eM : (k : Int) * (V : Int) = ((k * V : Nat) : Int) := by simp
            obtain ⟨M, hM⟩ : ∃ M, M = k * V := ⟨_, rfl⟩
            rw [← hM] at hm eM
            have R1 := Lib.hid (show M + D = valB k (s.data.toList.take (i + 1)) by rw [valB_takeS k s i hlt, ← hV.out, hM, hD, Ha.out])
            have R2 := Lib.hid (take_allB k s i hlt hall.out (by rw [← Ha.out]; exact hv))
            clear es hM hD hv
            go_wp2
            go_roundw
            case rel => exact ⟨i + 1, M + D, by omega, by go_num, by go_num, R1, R2, hbi⟩
            case measure => simp [intOf]; omega
          · have es : seen a k = -1 := by rw [seen, if_neg (by omega)]
            rw [es]
            have hok := Lib.hid (vB_bad k s i hlt (by rw [← Ha.out]; exact hv))
            clear es hv
            go_wp2
            go_ret
            exact valOut_of hok.out hbi.out
    · obtain rfl : i = s.size := by omega
      have hltI : ¬ (s.size : Int) < (s.size : Int) := by omega
      have et : s.data.toList.take s.size = s.data.toList := List.take_of_length_le (by simp)
      have hok := Lib.hid (show vB B s.data.toList = (V : Int) by
        rw [hV.out, et]
        exact vB_yes B _ h1 h4 (by have := hall.out; rwa [et] at this))
      clear et
      go_wp2
      go_ret
      exact valOut_of hok.out hb.out

set_option maxRecDepth 100000 in
theorem specValue (B : Nat) (s : ByteArray) (w : World) (hs : s.size ≤ 1048576) (hB : B ≤ 16) (hB1 : 1 ≤ B) : Calls Tryd.prog 36 #[.string s, .int .i64 (B : Int)] w (ValOut B s.data.toList w) := by
  by_cases h : 1 ≤ s.size ∧ s.size ≤ 4
  · exact specValue_go B s w hB hB1 h.1 h.2
  · exact specValue_len B s w hs h
end Go.Proofs.YtckakpcjbndijabDoor
namespace Go.Proofs.YtckakpcjbndijabDoor
open Go.RowKit

set_option maxRecDepth 100000 in
theorem hexV_dig10 (b : UInt8) (h : isDig b = true) : hexV b = b.toNat - 48 ∧ hexV b < 10 := by
  simp only [isDig, decide_eq_true_eq] at h
  have e : hexV b = b.toNat - 48 := by rw [hexV, if_pos (by omega)]
  exact ⟨e, by omega⟩
set_option maxRecDepth 100000 in
theorem valB_ten (l : List UInt8) (h : l.all isDig = true) : valB 10 l = val l := by
  obtain ⟨n, hn⟩ : ∃ n, l.length = n := ⟨_, rfl⟩
  induction n generalizing l with
  | zero =>
    obtain rfl : l = [] := List.eq_nil_of_length_eq_zero hn
    rfl
  | succ n ih =>
    obtain ⟨i, b, rfl⟩ : ∃ i b, l = i ++ [b] := by
      rcases List.eq_nil_or_concat l with h | ⟨i, b, h⟩
      · rw [h] at hn; cases hn
      · exact ⟨i, b, by rw [h, List.concat_eq_append]⟩
    rw [List.all_append, Bool.and_eq_true] at h
    rw [valB_snoc, val_snoc, ih i h.1 (by simp at hn; omega), (hexV_dig10 b (by simpa using h.2)).1]
set_option maxRecDepth 100000 in
theorem vB_num (b : UInt8) : vB 10 (numB b) = (b.toNat : Int) := by
  obtain ⟨h1, h2, h3, _⟩ := numB_facts b
  have hl := numB_len b
  rw [vB_yes 10 _ h3 (by omega) (fun c hc => (hexV_dig10 c (List.all_eq_true.1 h1 c hc)).2), valB_ten _ h1, h2]
set_option maxRecDepth 100000 in
theorem vB_hex (n : Nat) (h : n < 65536) : vB 16 (hexN n) = (n : Int) := by
  obtain ⟨h1, h2⟩ := okG_hex n h
  simp only [okG, Bool.and_eq_true, decide_eq_true_eq, List.all_eq_true] at h1
  rw [vB_yes 16 _ h1.1.1.1 h1.1.1.2 h1.1.2]
  exact congrArg Int.ofNat h2

set_option maxRecDepth 100000 in
/-- What is read is of one of two forms. -/
theorem rdA_cases {s : List UInt8} {x : Ad} (h : rdA s = some x) :
    (∃ bs, bs.length = 4 ∧ text4 bs = s ∧ x = ofA bs ∧ splitC 46 s = bs.map numB ∧ (splitC 58 s).length = 1) ∨ (∃ bs, bs.length = 16 ∧ text6 bs = s ∧ x = ofA bs ∧ splitC 58 s = (wordsL bs).map hexW ∧ (splitC 46 s).length = 1) := by
  unfold rdA at h
  split at h
  · obtain ⟨bs, h1, rfl⟩ := Option.map_eq_some_iff.1 h
    obtain ⟨hl, rfl⟩ := (rd6_iff s bs).1 h1
    refine .inr ⟨bs, hl, rfl, rfl, text6_split bs (fun e => ?_), by rw [split_one 46 _ (text6_no bs)]; rfl⟩
    have := wordsL_length bs
    rw [e, hl] at this
    cases this
  · obtain ⟨bs, h1, rfl⟩ := Option.map_eq_some_iff.1 h
    obtain ⟨hl, rfl⟩ := (rd4_iff s bs).1 h1
    exact .inl ⟨bs, hl, rfl, rfl, text4_split bs (fun e => by rw [e] at hl; cases hl), by rw [split_one 58 _ (text4_no bs)]; rfl⟩
set_option maxRecDepth 100000 in
theorem none_of {s : List UInt8} (h : ∀ x, rdA s = some x → False) : rdA s = none := by
  cases e : rdA s with
  | none => rfl
  | some x => exact (h x e).elim
set_option maxRecDepth 100000 in
theorem text4_len (bs : List UInt8) (h : bs.length = 4) : (text4 bs).length ≤ 39 := by
  have := joinC_len1 46 3 (bs.map numB) (fun e => by have := congrArg List.length e; simp [h] at this) (fun p hp => by
    obtain ⟨b, _, rfl⟩ := List.mem_map.1 hp
    exact numB_len b)
  rw [List.length_map, h] at this
  unfold text4
  omega
set_option maxRecDepth 100000 in
theorem text6_len (bs : List UInt8) (h : bs.length = 16) : (text6 bs).length ≤ 39 := by
  have hw : (wordsL bs).length = 8 := by rw [wordsL_length, h]
  have := joinC_len1 58 4 ((wordsL bs).map hexW) (fun e => by have := congrArg List.length e; simp [hw] at this) (fun p hp => by
    obtain ⟨n, hn, rfl⟩ := List.mem_map.1 hp
    obtain ⟨j, hj⟩ := List.getElem?_of_mem hn
    exact hexW_len n (wordsL_le bs j n hj).2)
  rw [List.length_map, hw] at this
  unfold text6
  omega
set_option maxRecDepth 100000 in
theorem read_long {s : List UInt8} (h : 39 < s.length) : rdA s = none := none_of fun x e => by
  rcases rdA_cases e with ⟨bs, hl, rfl, _⟩ | ⟨bs, hl, rfl, _⟩
  · have := text4_len bs hl
    omega
  · have := text6_len bs hl
    omega
set_option maxRecDepth 100000 in
theorem read_bad4 {s p : List UInt8} {i : Nat} (h4 : (splitC 46 s).length = 4) (hp : (splitC 46 s)[i]? = some p) (h : vB 10 p < 0 ∨ 255 < vB 10 p) : rdA s = none := none_of fun x e => by
  rcases rdA_cases e with ⟨bs, _, _, _, he, _⟩ | ⟨_, _, _, _, _, he⟩
  · rw [he, List.getElem?_map, Option.map_eq_some_iff] at hp
    obtain ⟨b, _, rfl⟩ := hp
    rw [vB_num] at h
    have := UInt8.toNat_lt b
    omega
  · omega
set_option maxRecDepth 100000 in
theorem read_bad6 {s p : List UInt8} {i : Nat} (h8 : (splitC 58 s).length = 8) (hp : (splitC 58 s)[i]? = some p) (h : vB 16 p < 0) : rdA s = none := none_of fun x e => by
  rcases rdA_cases e with ⟨_, _, _, _, _, he⟩ | ⟨bs, _, _, _, he, _⟩
  · omega
  · rw [he, List.getElem?_map, Option.map_eq_some_iff] at hp
    obtain ⟨n, hn, rfl⟩ := hp
    have e2 : vB 16 (hexW n) = _ := vB_hex n.toNat (words_nat bs n (List.mem_of_getElem? hn))
    rw [e2] at h
    omega
set_option maxRecDepth 100000 in
theorem read_none {s : List UInt8} (h4 : ¬ (splitC 46 s).length = 4) (h8 : ¬ (splitC 58 s).length = 8) : rdA s = none := none_of fun x e => by
  rcases rdA_cases e with ⟨bs, hl, _, _, he, _⟩ | ⟨bs, hl, _, _, he, _⟩
  · exact h4 (by rw [he, List.length_map, hl])
  · exact h8 (by rw [he, List.length_map, wordsL_length, hl])
def byteV (p : List UInt8) : UInt8 := UInt8.ofNat (vB 10 p).toNat
def natV (p : List UInt8) : Nat := (vB 16 p).toNat
set_option maxRecDepth 100000 in
theorem byteV_num (b : UInt8) : byteV (numB b) = b := by
  rw [byteV, vB_num]
  simp
set_option maxRecDepth 100000 in
theorem natV_hex (bs : List UInt8) (n : Int) (h : n ∈ wordsL bs) : natV (hexW n) = n.toNat := by
  have e2 : vB 16 (hexW n) = _ := vB_hex n.toNat (words_nat bs n h)
  rw [natV, e2, Int.toNat_natCast]
set_option maxRecDepth 100000 in
theorem read_end4 {s : List UInt8} (h4 : (splitC 46 s).length = 4) : rdA s = if (ofA ((splitC 46 s).map byteV)).text = s then some (ofA ((splitC 46 s).map byteV)) else none := by
  split
  · rename_i ht
    exact (rdA_iff s _).2 ⟨(of4_text _ (by rw [List.length_map, h4])).1, ht⟩
  · rename_i ht
    refine none_of fun x e => ht ?_
    rcases rdA_cases e with ⟨bs, hl, h1, _, he, _⟩ | ⟨_, _, _, _, _, he⟩
    · have e2 : (splitC 46 s).map byteV = bs := by
        rw [he, List.map_map]
        conv => rhs; rw [← List.map_id bs]
        exact List.map_congr_left (fun b _ => byteV_num b)
      rw [e2, (of4_text bs hl).2.1, h1]
    · omega
set_option maxRecDepth 100000 in
theorem read_end6 {s : List UInt8} (h8 : (splitC 58 s).length = 8) : rdA s = if (ofA (((splitC 58 s).map natV).flatMap put16N)).text = s then some (ofA (((splitC 58 s).map natV).flatMap put16N)) else none := by
  split
  · rename_i ht
    exact (rdA_iff s _).2 ⟨(of6_text _ (by rw [put16_len, List.length_map, h8])).1, ht⟩
  · rename_i ht
    refine none_of fun x e => ht ?_
    rcases rdA_cases e with ⟨_, _, _, _, _, he⟩ | ⟨bs, hl, h1, _, he, _⟩
    · omega
    · have e2 : ((splitC 58 s).map natV).flatMap put16N = bs := by
        rw [he, List.map_map]
        conv => rhs; rw [← words_put16 bs (by omega)]
        congr 1
        exact List.map_congr_left (fun n hn => natV_hex bs n hn)
      rw [e2, (of6_text bs hl).2.1, h1]
set_option maxRecDepth 100000 in
theorem vB_no58 {p : List UInt8} (h : 0 ≤ vB 10 p) : (58 : UInt8) ∉ p := fun hm => by
  unfold vB at h
  split at h
  · rename_i hc
    have := List.all_eq_true.1 hc.2.2 58 hm
    simp [hexV] at this
  · omega
set_option maxRecDepth 100000 in
theorem read_four_one {s : List UInt8} (h : ∀ p ∈ splitC 46 s, 0 ≤ vB 10 p) : (splitC 58 s).length = 1 := by
  have hn : (58 : UInt8) ∉ joinC 46 (splitC 46 s) := join_not_mem 46 58 (by decide) _ (fun p hp => vB_no58 (h p hp))
  rw [join_split] at hn
  rw [split_one 58 s hn]
  rfl
end Go.Proofs.YtckakpcjbndijabDoor
namespace Go.Proofs
open Go.Shelf
def Tryd.lays144_ren : Go.Shelf.Ren := ⟨fun | 144 => 39 | 143 => 66 | 219 => 89 | 217 => 104 | 225 => 105 | 224 => 106 | 267 => 107 | 266 => 112 | 314 => 113 | n => n, fun | 9 => 9 | 4 => 4 | 3 => 3 | 5 => 5 | 46 => 85 | 146 => 122 | 51 => 116 | n => n, fun | 1 => 1 | n => n⟩
theorem Tryd.lays144 : Go.Proofs.Lays.n144 Tryd.prog Tryd.lays144_ren := {
  mixed := by kernel_rfl
  f143 := Tryd.func66.trans (congrArg some (by kernel_rfl))
  f144 := Tryd.func39.trans (congrArg some (by kernel_rfl))
  f217 := Tryd.func104.trans (congrArg some (by kernel_rfl))
  f219 := Tryd.func89.trans (congrArg some (by kernel_rfl))
  f224 := Tryd.func106.trans (congrArg some (by kernel_rfl))
  f225 := Tryd.func105.trans (congrArg some (by kernel_rfl))
  f266 := Tryd.func112.trans (congrArg some (by kernel_rfl))
  f267 := Tryd.func107.trans (congrArg some (by kernel_rfl))
  f314 := Tryd.func113.trans (congrArg some (by kernel_rfl))
  t3 := Tryd.underlying3
  a3 := Tryd.isAgg3
  z3 := Tryd.sizeOf3
  v3 := Tryd.zeroValue3
  t4 := Tryd.underlying4
  a4 := Tryd.isAgg4
  z4 := Tryd.sizeOf4
  v4 := Tryd.zeroValue4
  t5 := Tryd.underlying5
  a5 := Tryd.isAgg5
  z5 := Tryd.sizeOf5
  v5 := Tryd.zeroValue5
  t9 := Tryd.underlying9
  a9 := Tryd.isAgg9
  z9 := Tryd.sizeOf9
  v9 := Tryd.zeroValue9
  t46 := Tryd.underlying85
  a46 := Tryd.isAgg85
  z46 := Tryd.sizeOf85
  v46 := Tryd.zeroValue85
  t51 := Tryd.underlying116
  a51 := Tryd.isAgg116
  z51 := Tryd.sizeOf116
  v51 := Tryd.zeroValue116
  t146 := Tryd.underlying122
  a146 := Tryd.isAgg122
  z146 := Tryd.sizeOf122
  v146 := Tryd.zeroValue122
  g1 := by kernel_rfl }
open Go.RowKit Go.Lib in
theorem Tryd.strings_Contains_one (s : ByteArray) (c : UInt8) (w : World) :
    Calls Tryd.prog 39 #[.string s, .string ⟨#[c]⟩] w fun e w' => e = .returned (.bool (decide (0 ≤ Lib.indexByte s.data.toList c))) ∧ w' = w := Any.strings_Contains_one Tryd.lays144 s c w
def Tryd.lays145_ren : Go.Shelf.Ren := ⟨fun | 145 => 45 | 220 => 72 | 219 => 89 | 217 => 104 | 225 => 105 | 224 => 106 | 267 => 107 | 266 => 112 | 314 => 113 | n => n, fun | 9 => 9 | 4 => 4 | 59 => 62 | 3 => 3 | 5 => 5 | 46 => 85 | 146 => 122 | 51 => 116 | n => n, fun | 1 => 1 | n => n⟩
theorem Tryd.lays145 : Go.Proofs.Lays.n145 Tryd.prog Tryd.lays145_ren := {
  mixed := by kernel_rfl
  f145 := Tryd.func45.trans (congrArg some (by kernel_rfl))
  f217 := Tryd.func104.trans (congrArg some (by kernel_rfl))
  f219 := Tryd.func89.trans (congrArg some (by kernel_rfl))
  f220 := Tryd.func72.trans (congrArg some (by kernel_rfl))
  f224 := Tryd.func106.trans (congrArg some (by kernel_rfl))
  f225 := Tryd.func105.trans (congrArg some (by kernel_rfl))
  f266 := Tryd.func112.trans (congrArg some (by kernel_rfl))
  f267 := Tryd.func107.trans (congrArg some (by kernel_rfl))
  f314 := Tryd.func113.trans (congrArg some (by kernel_rfl))
  t3 := Tryd.underlying3
  a3 := Tryd.isAgg3
  z3 := Tryd.sizeOf3
  v3 := Tryd.zeroValue3
  t4 := Tryd.underlying4
  a4 := Tryd.isAgg4
  z4 := Tryd.sizeOf4
  v4 := Tryd.zeroValue4
  t5 := Tryd.underlying5
  a5 := Tryd.isAgg5
  z5 := Tryd.sizeOf5
  v5 := Tryd.zeroValue5
  t9 := Tryd.underlying9
  a9 := Tryd.isAgg9
  z9 := Tryd.sizeOf9
  v9 := Tryd.zeroValue9
  t46 := Tryd.underlying85
  a46 := Tryd.isAgg85
  z46 := Tryd.sizeOf85
  v46 := Tryd.zeroValue85
  t51 := Tryd.underlying116
  a51 := Tryd.isAgg116
  z51 := Tryd.sizeOf116
  v51 := Tryd.zeroValue116
  t59 := Tryd.underlying62
  a59 := Tryd.isAgg62
  z59 := Tryd.sizeOf62
  v59 := Tryd.zeroValue62
  t146 := Tryd.underlying122
  a146 := Tryd.isAgg122
  z146 := Tryd.sizeOf122
  v146 := Tryd.zeroValue122
  g1 := by kernel_rfl }
open Go.RowKit Go.Lib in
theorem Tryd.strings_Cut (s sep : ByteArray) (m : Int) (w : World) (hs : s.size < 4294967281) (hm : w.cell? ⟨1, 0, none⟩ = some (.int .i64 m)) :
    Calls Tryd.prog 45 #[.string s, .string sep] w fun e w' => e = .returned (.tuple #[.string ⟨(Lib.cut s.data.toList sep.data.toList).1.toArray⟩, .string ⟨(Lib.cut s.data.toList sep.data.toList).2.1.toArray⟩, .bool (Lib.cut s.data.toList sep.data.toList).2.2]) ∧ ∃ n, w' = w.drewN n := Any.strings_Cut Tryd.lays145 s sep m w hs hm
def Tryd.lays146_ren : Go.Shelf.Ren := ⟨fun | 146 => 67 | 221 => 90 | 268 => 108 | 138 => 109 | 143 => 66 | 195 => 114 | 197 => 115 | 218 => 116 | 219 => 89 | 260 => 117 | 217 => 104 | 225 => 105 | 224 => 106 | 267 => 107 | 266 => 112 | 314 => 113 | n => n, fun | 9 => 9 | 31 => 51 | 3 => 3 | 4 => 4 | 0 => 0 | 105 => 125 | 21 => 21 | 5 => 5 | 46 => 85 | 119 => 129 | 139 => 132 | 138 => 131 | 146 => 122 | 51 => 116 | n => n, fun | 1 => 1 | 3 => 4 | 4 => 5 | n => n⟩
theorem Tryd.lays146 : Go.Proofs.Lays.n146 Tryd.prog Tryd.lays146_ren := {
  mixed := by kernel_rfl
  f138 := Tryd.func109.trans (congrArg some (by kernel_rfl))
  f143 := Tryd.func66.trans (congrArg some (by kernel_rfl))
  f146 := Tryd.func67.trans (congrArg some (by kernel_rfl))
  f195 := Tryd.func114.trans (congrArg some (by kernel_rfl))
  f197 := Tryd.func115.trans (congrArg some (by kernel_rfl))
  f217 := Tryd.func104.trans (congrArg some (by kernel_rfl))
  f218 := Tryd.func116.trans (congrArg some (by kernel_rfl))
  f219 := Tryd.func89.trans (congrArg some (by kernel_rfl))
  f221 := Tryd.func90.trans (congrArg some (by kernel_rfl))
  f224 := Tryd.func106.trans (congrArg some (by kernel_rfl))
  f225 := Tryd.func105.trans (congrArg some (by kernel_rfl))
  f260 := Tryd.func117.trans (congrArg some (by kernel_rfl))
  f266 := Tryd.func112.trans (congrArg some (by kernel_rfl))
  f267 := Tryd.func107.trans (congrArg some (by kernel_rfl))
  f268 := Tryd.func108.trans (congrArg some (by kernel_rfl))
  f314 := Tryd.func113.trans (congrArg some (by kernel_rfl))
  t0 := Tryd.underlying0
  a0 := Tryd.isAgg0
  z0 := Tryd.sizeOf0
  v0 := Tryd.zeroValue0
  t3 := Tryd.underlying3
  a3 := Tryd.isAgg3
  z3 := Tryd.sizeOf3
  v3 := Tryd.zeroValue3
  t4 := Tryd.underlying4
  a4 := Tryd.isAgg4
  z4 := Tryd.sizeOf4
  v4 := Tryd.zeroValue4
  t5 := Tryd.underlying5
  a5 := Tryd.isAgg5
  z5 := Tryd.sizeOf5
  v5 := Tryd.zeroValue5
  t9 := Tryd.underlying9
  a9 := Tryd.isAgg9
  z9 := Tryd.sizeOf9
  v9 := Tryd.zeroValue9
  t21 := Tryd.underlying21
  a21 := Tryd.isAgg21
  z21 := Tryd.sizeOf21
  v21 := Tryd.zeroValue21
  t31 := Tryd.underlying51
  a31 := Tryd.isAgg51
  z31 := Tryd.sizeOf51
  v31 := Tryd.zeroValue51
  t46 := Tryd.underlying85
  a46 := Tryd.isAgg85
  z46 := Tryd.sizeOf85
  v46 := Tryd.zeroValue85
  t51 := Tryd.underlying116
  a51 := Tryd.isAgg116
  z51 := Tryd.sizeOf116
  v51 := Tryd.zeroValue116
  t105 := Tryd.underlying125
  a105 := Tryd.isAgg125
  z105 := Tryd.sizeOf125
  v105 := Tryd.zeroValue125
  t119 := Tryd.underlying129
  a119 := Tryd.isAgg129
  z119 := Tryd.sizeOf129
  t138 := Tryd.underlying131
  a138 := Tryd.isAgg131
  z138 := Tryd.sizeOf131
  v138 := Tryd.zeroValue131
  t139 := Tryd.underlying132
  a139 := Tryd.isAgg132
  z139 := Tryd.sizeOf132
  v139 := Tryd.zeroValue132
  t146 := Tryd.underlying122
  a146 := Tryd.isAgg122
  z146 := Tryd.sizeOf122
  v146 := Tryd.zeroValue122
  g1 := by kernel_rfl
  g3 := by kernel_rfl
  g4 := by kernel_rfl }
open Go.RowKit Go.Lib in
theorem Tryd.strings_Split (s sep : ByteArray) (m : Int) (w : World) (hs : s.size < 4294967281) (hm : w.cell? ⟨1, 0, none⟩ = some (.int .i64 m)) (h1 : 1 ≤ sep.size) :
    Calls Tryd.prog 67 #[.string s, .string sep] w fun e w' =>
      e = .returned (.slice (some ⟨w.heap.size, 0, none⟩) (Lib.countB s sep + 1) (Lib.countB s sep + 1)) ∧ w' = w.alloc (.cells ((Lib.splitB sep 0 (Lib.countB s sep) s).map Value.string).toArray 9) := Any.strings_Split Tryd.lays146 (by kernel_rfl) s sep m w hs hm h1
end Go.Proofs
namespace Go.Proofs.YtckakpcjbndijabDoor
open Go.RowKit

set_option maxRecDepth 100000 in
theorem strOf_append (a b : List UInt8) : strOf (a ++ b) = strOf a ++ strOf b := by
  apply ByteArray.ext
  simp [strOf]

set_option maxRecDepth 100000 in
set_option maxHeartbeats 400000 in
theorem specHexN (n : Nat) : n < 65536 → ∀ w : World, Calls Tryd.prog 30 #[.int .i64 (n : Int)] w fun e w' => e = .returned (.string (strOf (hexN n))) ∧ Below w.heap.size w w' := by
  induction n using Nat.strongRecOn with
  | ind n ih =>
    intro hn w
    by_cases h : n < 16
    · have hI : (n : Int) < 16 := by omega
      have hcv := conv_b (w.alloc (.cells #[.int .u8 ((hexDig n).toNat : Int)] 5)) _ (some ⟨w.heap.size, 0, none⟩) 1 1 [hexDig n] rfl (RB.new w 5 [hexDig n])
      have E := Lib.hid (hexN_small n h)
      clear ih
      go_enter Tryd.func30, Tryd.ntmps30
      go_wp2_with (go_at_call 58; refine (specDigitN n _ h).mono ?_; rintro e w' ⟨rfl, rfl⟩)
      go_ret
      rw [E.out]
      exact ⟨rfl, by go_grown⟩
    · have hI : ¬ (n : Int) < 16 := by omega
      have IH := Lib.hid (ih (n / 16) (by omega) (by omega))
      obtain ⟨q, hq⟩ : ∃ q : Nat, q = n / 16 := ⟨_, rfl⟩
      obtain ⟨r, hr⟩ : ∃ r : Nat, r = n % 16 := ⟨_, rfl⟩
      have hqI : (n : Int) / 16 = (q : Int) := by omega
      have hrI : (n : Int) % 16 = (r : Int) := by omega
      have hr16 : r < 16 := by omega
      have E := Lib.hid (show hexN n = hexN q ++ [hexDig r] by rw [hexN_big n h, hq, hr])
      have hsz : ¬ 9223372036854775807 < (strOf (hexN q)).size + (strOf [hexDig r]).size := by
        have := hexN_len 3 q (by omega)
        rw [strOf_size, strOf_size]
        simp
        omega
      rw [← hq] at IH
      clear ih h hq hr
      go_enter Tryd.func30, Tryd.ntmps30
      go_wp2_with fail
      refine (IH.out _).mono ?_
      rintro e w1 ⟨rfl, b1⟩
      have hcv := conv_b (w1.alloc (.cells #[.int .u8 ((hexDig r).toNat : Int)] 5)) _ (some ⟨w1.heap.size, 0, none⟩) 1 1 [hexDig r] rfl (RB.new w1 5 [hexDig r])
      go_wp2_with (go_at_call 58; refine (specDigitN r _ hr16).mono ?_; rintro e w' ⟨rfl, rfl⟩)
      go_ret
      rw [E.out, strOf_append]
      exact ⟨rfl, bthen b1 (Joins.below_alloc1 w1 _)⟩

set_option maxRecDepth 100000 in
theorem pre4 (bs : List UInt8) (i : Nat) (h : i < bs.length) : joinC 46 ((bs.take (i + 1)).map numB) = if i = 0 then numB bs[i] else joinC 46 ((bs.take i).map numB) ++ 46 :: numB bs[i] := by
  rw [take_snoc bs i h, List.map_append, List.map_singleton]
  split
  · rename_i h0
    subst h0
    rw [List.take_zero, List.map_nil, List.nil_append, joinC_one]
  · rename_i h0
    rw [joinC_snoc]
    intro e
    have := congrArg List.length e
    rw [List.length_map, List.length_take, List.length_nil] at this
    omega
set_option maxRecDepth 100000 in
theorem pre6 (ws : List Int) (i : Nat) (h : i < ws.length) : joinC 58 ((ws.take (i + 1)).map hexW) = if i = 0 then hexW ws[i] else joinC 58 ((ws.take i).map hexW) ++ 58 :: hexW ws[i] := by
  rw [take_snoc ws i h, List.map_append, List.map_singleton]
  split
  · rename_i h0
    subst h0
    rw [List.take_zero, List.map_nil, List.nil_append, joinC_one]
  · rename_i h0
    rw [joinC_snoc]
    intro e
    have := congrArg List.length e
    rw [List.length_map, List.length_take, List.length_nil] at this
    omega
set_option maxRecDepth 100000 in
theorem len4t (bs : List UInt8) (i : Nat) (h : bs.length ≤ 16) : (joinC 46 ((bs.take i).map numB)).length ≤ 64 := by
  have h1 := joinC_len 46 3 ((bs.take i).map numB) (fun x hx => by
    obtain ⟨b, _, rfl⟩ := List.mem_map.1 hx
    exact numB_len b)
  simp only [List.length_map, List.length_take] at h1
  omega
set_option maxRecDepth 100000 in
theorem len6t (ws : List Int) (i : Nat) (h : ws.length ≤ 8) (hw : ∀ n ∈ ws, n ≤ 65535) : (joinC 58 ((ws.take i).map hexW)).length ≤ 40 := by
  have h1 := joinC_len 58 4 ((ws.take i).map hexW) (fun x hx => by
    obtain ⟨n, hn, rfl⟩ := List.mem_map.1 hx
    exact hexW_len n (hw n (List.mem_of_mem_take hn)))
  simp only [List.length_map, List.length_take] at h1
  omega

def TextOut (x : Ad) (w : World) (e : Ending) (w' : World) : Prop := e = .returned (.string (strOf x.text)) ∧ Below w.heap.size w w'
set_option maxRecDepth 100000 in
theorem text_no {x : Ad} (h : x.ok = false) : x.text = [] := by simp [Ad.text, h]
set_option maxRecDepth 100000 in
theorem text_four {x : Ad} (h : x.ok = true) (hk : x.k = 4) : x.text = text4 (put32 x.d) := by simp [Ad.text, h, hk]
set_option maxRecDepth 100000 in
theorem text_six {x : Ad} (h : x.ok = true) (hk : x.k = 6) : x.text = text6 x.whole := by simp [Ad.text, h, hk]

set_option maxRecDepth 100000 in
set_option maxHeartbeats 400000 in
theorem specText_no (x : Ad) (h : x.ok = false) (w : World) : Calls Tryd.prog 9 #[.agg #[.int .i64 x.k, .int .i64 x.a, .int .i64 x.b, .int .i64 x.c, .int .i64 x.d]] w (TextOut x w) := by
  have so : ∀ v : World, Calls Tryd.prog 28 #[.agg #[.int .i64 x.k, .int .i64 x.a, .int .i64 x.b, .int .i64 x.c, .int .i64 x.d]] v fun e v' => ∃ A c, e = .returned (.slice A 0 c) ∧ v'.ownsRow v.heap.size 5 1 (.slice A 0 c) 0 (cellsOf []) ∧ Below v.heap.size v v' := by
    intro v
    have hh := specAddrBytes x v
    unfold BytesOut at hh
    rwa [show x.bytes = [] by simp [Ad.bytes, h]] at hh
  have SO := Lib.hid so
  have E := Lib.hid (text_no h)
  clear so h
  go_enter Tryd.func9, Tryd.ntmps9
  go_wp2_with fail
  refine (SO.out _).mono ?_
  rintro e w1 ⟨A, k1, rfl, o1, b1⟩
  go_wp2
  go_ret
  unfold TextOut
  rw [E.out]
  exact ⟨rfl, bthen (Joins.below_alloc1 w _) b1⟩

set_option maxRecDepth 100000 in
set_option maxHeartbeats 1000000 in
theorem specText_four (x : Ad) (h : x.ok = true) (hk : x.k = 4) (w : World) : Calls Tryd.prog 9 #[.agg #[.int .i64 x.k, .int .i64 x.a, .int .i64 x.b, .int .i64 x.c, .int .i64 x.d]] w (TextOut x w) := by
  obtain ⟨bs, hbs⟩ : ∃ bs, bs = put32 x.d := ⟨_, rfl⟩
  have hl : bs.length = 4 := by rw [hbs]; rfl
  have so : ∀ v : World, Calls Tryd.prog 28 #[.agg #[.int .i64 x.k, .int .i64 x.a, .int .i64 x.b, .int .i64 x.c, .int .i64 x.d]] v fun e v' => ∃ A c, e = .returned (.slice A 4 c) ∧ v'.ownsRow v.heap.size 5 1 (.slice A 4 c) 4 (cellsOf bs) ∧ Below v.heap.size v v' := by
    intro v
    have hh := specAddrBytes x v
    unfold BytesOut at hh
    rwa [bytes_four h hk, ← hbs, hl] at hh
  have SO := Lib.hid so
  have E := Lib.hid (show x.text = text4 bs by rw [text_four h hk, hbs])
  have HL := Lib.hid hl
  clear so h hk hbs hl
  go_enter Tryd.func9, Tryd.ntmps9
  go_wp2_with fail
  refine (SO.out _).mono ?_
  rintro e w1 ⟨A, k1, rfl, o1, b1⟩
  have O1 := Lib.hid o1
  have B1 := Lib.hid (bthen (Joins.below_alloc1 w _) b1)
  clear o1 b1
  go_wp2_with fail
  go_loopw [4, 5] (fun s q wr => ∃ i : Nat, i ≤ 4 ∧ q = .int .i64 i ∧ s = .string (strOf (joinC 46 ((bs.take i).map numB))) ∧ Hid (wr.ownsRow (w.heap.size + 1) 5 1 (.slice A 4 k1) 4 (cellsOf bs)) ∧ Hid (Below w.heap.size w wr)) (fun _ q _ => 4 - (intOf q).toNat)
  case atStart => exact ⟨0, by omega, rfl, rfl, Lib.hid (by simpa using O1.out), B1⟩
  case round =>
    obtain ⟨i, hi, rfl, rfl, ho, hb⟩ := hrel
    by_cases hlt : i < 4
    · have hil : i < bs.length := by rw [HL.out]; exact hlt
      obtain ⟨g, rfl⟩ : ∃ g, A = some ⟨g, 0, none⟩ := by
        rcases ho.out.2 with ⟨_, h2⟩ | ⟨g, cap, cur, hv, _⟩
        · omega
        · injection hv with hA
          exact ⟨g, hA⟩
      obtain ⟨b, hb0⟩ : ∃ b : UInt8, b = bs[i] := ⟨_, rfl⟩
      have hc : wr.cell? ⟨g, i, none⟩ = some (.int .u8 (b.toNat : Int)) := by
        rw [ho.out.cellAt i (by omega), cellsOf_get bs i b (by rw [hb0]; exact List.getElem?_eq_getElem hil)]
      have hb256 := UInt8.toNat_lt b
      have E4 := Lib.hid (show joinC 46 ((bs.take (i + 1)).map numB) = if i = 0 then numB b else joinC 46 ((bs.take i).map numB) ++ 46 :: numB b by rw [pre4 bs i hil, hb0])
      obtain ⟨P, hP⟩ : ∃ P, P = joinC 46 ((bs.take i).map numB) := ⟨_, rfl⟩
      have hPl : P.length ≤ 64 := by rw [hP]; exact len4t bs i (by rw [HL.out]; omega)
      have hPz : i = 0 → P = [] := fun h0 => by rw [hP, h0]; rfl
      rw [← hP] at E4
      rw [← hP]
      obtain ⟨N, hN⟩ : ∃ N, N = numB b := ⟨_, rfl⟩
      have hNl : N.length ≤ 3 := by rw [hN]; exact numB_len b
      have nt := specNumText (b.toNat : Int)
      rw [show numText (b.toNat : Int) = N from hN.symm] at nt
      have NT := Lib.hid nt
      rw [← hN] at E4
      clear hP hb0 hN nt
      by_cases hi0 : i = 0
      · subst hi0
        rw [hPz rfl]
        rw [hPz rfl, if_pos rfl] at E4
        have hz1 : ¬ 9223372036854775807 < (strOf []).size + (strOf N).size := by rw [strOf_size, strOf_size]; simp; omega
        clear hPz
        go_wp2_with fail
        refine (NT.out _ (by omega)).mono ?_
        rintro e w2 ⟨rfl, b2⟩
        have R1 := Lib.hid (own_below ho.out b2)
        have R2 := Lib.hid (bthen hb.out b2)
        go_wp2
        go_roundw
        case rel => exact ⟨1, by omega, by go_num, by rw [E4.out, ← strOf_append]; rfl, R1, R2⟩
        case measure => simp [intOf]
      · have hi0I : (0 : Int) < (i : Int) := by omega
        rw [if_neg hi0] at E4
        have hz1 : ¬ 9223372036854775807 < (strOf P).size + 1 := by rw [strOf_size]; omega
        have hz2 : ¬ 9223372036854775807 < (strOf P).size + 1 + (strOf N).size := by rw [strOf_size, strOf_size]; omega
        clear hPz
        go_wp2_with fail
        refine (NT.out _ (by omega)).mono ?_
        rintro e w2 ⟨rfl, b2⟩
        have R1 := Lib.hid (own_below ho.out b2)
        have R2 := Lib.hid (bthen hb.out b2)
        go_wp2
        go_roundw
        case rel => exact ⟨i + 1, by omega, by go_num, by rw [E4.out, show P ++ 46 :: N = (P ++ [46]) ++ N by simp, strOf_append, strOf_append]; rfl, R1, R2⟩
        case measure => simp [intOf]; omega
    · obtain rfl : i = 4 := by omega
      have e4 : (bs.take 4).map numB = bs.map numB := by rw [List.take_of_length_le (by rw [HL.out]; exact Nat.le_refl _)]
      have EE := Lib.hid (show x.text = joinC 46 ((bs.take 4).map numB) by rw [E.out, e4]; rfl)
      clear e4
      go_wp2
      go_ret
      unfold TextOut
      rw [EE.out]
      exact ⟨rfl, hb.out⟩

set_option maxRecDepth 100000 in
set_option maxHeartbeats 1000000 in
theorem specText_six (x : Ad) (h : x.ok = true) (hk : x.k = 6) (w : World) : Calls Tryd.prog 9 #[.agg #[.int .i64 x.k, .int .i64 x.a, .int .i64 x.b, .int .i64 x.c, .int .i64 x.d]] w (TextOut x w) := by
  obtain ⟨bs, hbs⟩ : ∃ bs, bs = x.whole := ⟨_, rfl⟩
  have hl : bs.length = 16 := by rw [hbs, x.whole_length]
  have so : ∀ v : World, Calls Tryd.prog 28 #[.agg #[.int .i64 x.k, .int .i64 x.a, .int .i64 x.b, .int .i64 x.c, .int .i64 x.d]] v fun e v' => ∃ A c, e = .returned (.slice A 16 c) ∧ v'.ownsRow v.heap.size 5 1 (.slice A 16 c) 16 (cellsOf bs) ∧ Below v.heap.size v v' := by
    intro v
    have hh := specAddrBytes x v
    unfold BytesOut at hh
    rwa [bytes_six h hk, ← hbs, hl] at hh
  have SO := Lib.hid so
  have E := Lib.hid (show x.text = text6 bs by rw [text_six h hk, hbs])
  have HL := Lib.hid hl
  obtain ⟨ws, hws⟩ : ∃ ws, ws = wordsL bs := ⟨_, rfl⟩
  have hwl : ws.length = 8 := by rw [hws, wordsL_length, hl]
  have HWL := Lib.hid hwl
  have HWS := Lib.hid hws
  clear so h hk hbs hl hws hwl
  go_enter Tryd.func9, Tryd.ntmps9
  go_wp2_with fail
  refine (SO.out _).mono ?_
  rintro e w1 ⟨A, k1, rfl, o1, b1⟩
  have O1 := Lib.hid o1
  have B1 := Lib.hid (bthen (Joins.below_alloc1 w _) b1)
  clear o1 b1
  go_wp2_with fail
  go_loopw [4, 6] (fun s q wr => ∃ i : Nat, i ≤ 8 ∧ q = .int .i64 i ∧ s = .string (strOf (joinC 58 ((ws.take i).map hexW))) ∧ Hid (wr.ownsRow (w.heap.size + 1) 5 1 (.slice A 16 k1) 16 (cellsOf bs)) ∧ Hid (Below w.heap.size w wr)) (fun _ q _ => 8 - (intOf q).toNat)
  case atStart => exact ⟨0, by omega, rfl, rfl, Lib.hid (by simpa using O1.out), B1⟩
  case round =>
    obtain ⟨i, hi, rfl, rfl, ho, hb⟩ := hrel
    by_cases hlt : i < 8
    · have hil : 2 * i + 1 < bs.length := by rw [HL.out]; omega
      have hiw : i < ws.length := by rw [HWL.out]; exact hlt
      obtain ⟨g, rfl⟩ : ∃ g, A = some ⟨g, 0, none⟩ := by
        rcases ho.out.2 with ⟨_, h2⟩ | ⟨g, cap, cur, hv, _⟩
        · omega
        · injection hv with hA
          exact ⟨g, hA⟩
      obtain ⟨a, ha0⟩ : ∃ a : UInt8, a = bs[2 * i] := ⟨_, rfl⟩
      obtain ⟨b, hb0⟩ : ∃ b : UInt8, b = bs[2 * i + 1] := ⟨_, rfl⟩
      have hca : wr.cell? ⟨g, 2 * i, none⟩ = some (.int .u8 (a.toNat : Int)) := by
        rw [ho.out.cellAt (2 * i) (by omega), cellsOf_get bs (2 * i) a (by rw [ha0]; exact List.getElem?_eq_getElem (by omega))]
      have hcb : wr.cell? ⟨g, 2 * i + 1, none⟩ = some (.int .u8 (b.toNat : Int)) := by
        rw [ho.out.cellAt (2 * i + 1) (by omega), cellsOf_get bs (2 * i + 1) b (by rw [hb0]; exact List.getElem?_eq_getElem hil)]
      have ha256 := UInt8.toNat_lt a
      have hb256 := UInt8.toNat_lt b
      obtain ⟨n, hn⟩ : ∃ n : Nat, n = 256 * a.toNat + b.toNat := ⟨_, rfl⟩
      have hn16 : n < 65536 := by omega
      have hwi : ws[i] = (n : Int) := by
        have h1 := wordsL_pair bs i hil
        rw [← HWS.out, List.getElem?_eq_getElem hiw, ← ha0, ← hb0] at h1
        have h2 := Option.some.inj h1
        rw [h2]
        omega
      have E6 := Lib.hid (show joinC 58 ((ws.take (i + 1)).map hexW) = if i = 0 then hexN n else joinC 58 ((ws.take i).map hexW) ++ 58 :: hexN n by rw [pre6 ws i hiw, hwi]; rfl)
      obtain ⟨P, hP⟩ : ∃ P, P = joinC 58 ((ws.take i).map hexW) := ⟨_, rfl⟩
      have hPl : P.length ≤ 40 := by
        rw [hP]
        refine len6t ws i (by rw [HWL.out]; exact Nat.le_refl _) (fun m hm => ?_)
        obtain ⟨j, hj⟩ := List.getElem?_of_mem hm
        rw [HWS.out] at hj
        exact (wordsL_le bs j m hj).2
      have hPz : i = 0 → P = [] := fun h0 => by rw [hP, h0]; rfl
      rw [← hP] at E6
      rw [← hP]
      obtain ⟨N, hN⟩ : ∃ N, N = hexN n := ⟨_, rfl⟩
      have hNl : N.length ≤ 4 := by rw [hN]; exact hexN_len 3 n (by omega)
      have nt := specHexN n hn16
      rw [← hN] at nt
      have NT := Lib.hid nt
      rw [← hN] at E6
      have hnI : 256 * (a.toNat : Int) + (b.toNat : Int) = (n : Int) := by omega
      have ka := cell_regrown hca
      have kb := cell_regrown hcb
      clear hP ha0 hb0 hN nt hn hwi hca hcb
      by_cases hi0 : i = 0
      · subst hi0
        rw [hPz rfl]
        rw [hPz rfl, if_pos rfl] at E6
        have hz1 : ¬ 9223372036854775807 < (strOf []).size + (strOf N).size := by rw [strOf_size, strOf_size]; simp; omega
        clear hPz
        go_wp2_with fail
        refine wp_region_quiet_below (by kernel_rfl) (by kernel_rfl) ?_
        repeat (go_big_quiet_step ((go_at_call 30; exact Calls.regrown_of (NT.out _))))
        refine wpQuiet_nil ?_
        intro w2 hw2
        obtain ⟨⟨dq, osq⟩, hw2⟩ := hw2
        have b2 := below_regrown wr dq osq
        rw [← hw2] at b2
        clear hw2 ka kb
        have R1 := Lib.hid (own_below ho.out b2)
        have R2 := Lib.hid (bthen hb.out b2)
        go_wp2
        go_roundw
        case rel => exact ⟨1, by omega, by go_num, by rw [E6.out, ← strOf_append]; rfl, R1, R2⟩
        case measure => simp [intOf]
      · have hi0I : (0 : Int) < (i : Int) := by omega
        rw [if_neg hi0] at E6
        have hz1 : ¬ 9223372036854775807 < (strOf P).size + 1 := by rw [strOf_size]; omega
        have hz2 : ¬ 9223372036854775807 < (strOf P).size + 1 + (strOf N).size := by rw [strOf_size, strOf_size]; omega
        clear hPz
        go_wp2_with fail
        refine wp_region_quiet_below (by kernel_rfl) (by kernel_rfl) ?_
        repeat (go_big_quiet_step ((go_at_call 30; exact Calls.regrown_of (NT.out _))))
        refine wpQuiet_nil ?_
        intro w2 hw2
        obtain ⟨⟨dq, osq⟩, hw2⟩ := hw2
        have b2 := below_regrown wr dq osq
        rw [← hw2] at b2
        clear hw2 ka kb
        have R1 := Lib.hid (own_below ho.out b2)
        have R2 := Lib.hid (bthen hb.out b2)
        go_wp2
        go_roundw
        case rel => exact ⟨i + 1, by omega, by go_num, by rw [E6.out, show P ++ 58 :: N = (P ++ [58]) ++ N by simp, strOf_append, strOf_append]; rfl, R1, R2⟩
        case measure => simp [intOf]; omega
    · obtain rfl : i = 8 := by omega
      have e8 : (ws.take 8).map hexW = ws.map hexW := by rw [List.take_of_length_le (by rw [HWL.out]; exact Nat.le_refl _)]
      have EE := Lib.hid (show x.text = joinC 58 ((ws.take 8).map hexW) by rw [E.out, e8, HWS.out]; rfl)
      clear e8
      go_wp2
      go_ret
      unfold TextOut
      rw [EE.out]
      exact ⟨rfl, hb.out⟩

set_option maxRecDepth 100000 in
theorem specAddrText (x : Ad) (w : World) : Calls Tryd.prog 9 #[.agg #[.int .i64 x.k, .int .i64 x.a, .int .i64 x.b, .int .i64 x.c, .int .i64 x.d]] w (TextOut x w) := by
  cases h : x.ok
  · exact specText_no x h w
  · rcases x.ok_kind h with hk | hk
    · exact specText_four x h hk w
    · exact specText_six x h hk w
end Go.Proofs.YtckakpcjbndijabDoor
namespace Go.Proofs.YtckakpcjbndijabDoor
open Go.RowKit

set_option maxRecDepth 100000 in
theorem and_u64_15 (m : Nat) (h : m < 65536) : bits .and .u64 (m : Int) 15 = ((m % 16 : Nat) : Int) := by
  have e : (BitVec.ofInt 64 (m : Int)).toNat = m := by
    rw [BitVec.ofInt_natCast, BitVec.toNat_ofNat]
    exact Nat.mod_eq_of_lt (by omega)
  have e2 : m &&& 15 = m % 16 := Nat.and_two_pow_sub_one_eq_mod m 4
  show IntKind.u64.wrap ((BitVec.ofInt 64 (m : Int) &&& BitVec.ofInt 64 15).toNat : Int) = _
  rw [BitVec.toNat_and, e, show (BitVec.ofInt 64 15).toNat = 15 from rfl, e2, IntKind.wrap_u64]
  omega

set_option maxRecDepth 100000 in
set_option maxHeartbeats 400000 in
theorem trail16 (w : World) (ht : w.cell? ⟨3, 15, none⟩ = some (.int .u8 4)) :
    Calls Tryd.prog 111 #[.int .u64 16] w fun e w' => e = .returned (.int .i64 4) ∧ w = w' := by
  have h1 : bits .and .u64 16 (IntKind.u64.wrap (-16)) = 16 := by decide
  have h2 : IntKind.u64.wrap 4573923408821661840 = 4573923408821661840 := by decide
  go_enter Tryd.func111, Tryd.ntmps111
  go_wp2
  go_ret
  exact ⟨rfl, rfl⟩

set_option maxRecDepth 100000 in
set_option maxHeartbeats 400000 in
theorem trail16' (w : World) (ht : w.cell? ⟨3, 15, none⟩ = some (.int .u8 4)) :
    Calls Tryd.prog 103 #[.int .u64 16] w fun e w' => e = .returned (.int .i64 4) ∧ w = w' := by
  have T := Lib.hid (trail16 w ht)
  clear ht
  go_enter Tryd.func103, Tryd.ntmps103
  go_wp2_with (go_at_call 111; refine T.out.mono ?_; rintro e w' ⟨rfl, rfl⟩)
  go_ret
  exact ⟨rfl, rfl⟩

set_option maxRecDepth 100000 in
theorem pow_u16 : bits .and .i64 16 15 = 0 := by decide
set_option maxRecDepth 100000 in
theorem index_digits (d : Nat) (h : d < 16) (w : World) :
    (Instr.index 9 (.string ⟨#[48, 49, 50, 51, 52, 53, 54, 55, 56, 57, 97, 98, 99, 100, 101, 102, 103, 104, 105, 106, 107, 108, 109, 110, 111, 112, 113, 114, 115, 116, 117, 118, 119, 120, 121, 122]⟩) (.int .u64 (d : Int))).run Tryd.prog w = .ok (.int .u8 ((hexDig d).toNat : Int)) w := by
  have : d = 0 ∨ d = 1 ∨ d = 2 ∨ d = 3 ∨ d = 4 ∨ d = 5 ∨ d = 6 ∨ d = 7 ∨ d = 8 ∨ d = 9 ∨ d = 10 ∨ d = 11 ∨ d = 12 ∨ d = 13 ∨ d = 14 ∨ d = 15 := by omega
  rcases this with rfl | rfl | rfl | rfl | rfl | rfl | rfl | rfl | rfl | rfl | rfl | rfl | rfl | rfl | rfl | rfl <;> rfl
/-- The row of sixty-five bytes with its last ones written. -/
def hexRow65 (k : Nat) (ds : List UInt8) : List UInt8 := List.replicate (65 - k) 0 ++ ds
set_option maxRecDepth 100000 in
theorem hexRow65_len (k : Nat) (ds : List UInt8) (hk : k ≤ 65) (hd : ds.length = k) : (hexRow65 k ds).length = 65 := by simp [hexRow65]; omega
set_option maxRecDepth 100000 in
theorem hexRow65_set (k : Nat) (ds : List UInt8) (b : UInt8) (hk : k < 65) : (cellsOf (hexRow65 k ds)).set (64 - k) (.int .u8 (b.toNat : Int)) = cellsOf (hexRow65 (k + 1) (b :: ds)) := by
  unfold hexRow65
  rw [show 65 - k = (64 - k) + 1 by omega, List.replicate_succ', List.append_assoc, List.singleton_append, fill_step _ _ _ _ (64 - k) (by simp), show 65 - (k + 1) = 64 - k by omega, List.append_assoc, List.singleton_append]

set_option maxRecDepth 100000 in
set_option maxHeartbeats 400000 in
theorem powC (w : World) : Calls Tryd.prog 102 #[.int .i64 16] w fun e w' => e = .returned (.bool true) ∧ w = w' := by
  have hp := pow_u16
  go_enter Tryd.func102, Tryd.ntmps102
  go_wp2
  go_ret
  exact ⟨rfl, rfl⟩
set_option maxRecDepth 100000 in
theorem zeros65 : Tryd.zeroCells117 = (cellsOf (hexRow65 0 [])).toArray := by kernel_rfl
set_option maxRecDepth 100000 in
theorem slice_arr65 (g m : Nat) (h : m < 65) (w : World) : (Instr.sliceAt 117 (.pointer (some ⟨g, 0, none⟩)) (some (.int .i64 (m : Int))) none none).run Tryd.prog w = .ok (.slice (some ⟨g, m, none⟩) (65 - m) (65 - m)) w := by
  obtain ⟨i0, hi0, hz0, hz1, hz2⟩ := info_parts info_u8
  have e : Tryd.prog.elem 117 = 5 := by kernel_rfl
  have el : Tryd.prog.arrayLen 117 = 65 := by kernel_rfl
  rw [run_sliceAt_array_l w _ _ (by kernel_rfl) .i64 (m : Int) (by omega) (by rw [el]; omega)]
  simp [e, el, sizeOf, typeInfo, hi0, slicedAt, hz1, addr_add]
  omega

set_option maxRecDepth 100000 in
set_option maxHeartbeats 1000000 in
theorem formatBits16 (n : Nat) (hn : n < 65536) (w : World) (ht : w.cell? ⟨3, 15, none⟩ = some (.int .u8 4)) :
    Calls Tryd.prog 88 #[.slice none 0 0, .int .u64 (n : Int), .int .i64 16, .bool false, .bool false] w fun e w' => e = .returned (.tuple #[.slice none 0 0, .string (strOf (hexN n))]) ∧ Below w.heap.size w w' := by
  have T := Lib.hid (show ∀ o, Calls Tryd.prog 103 #[.int .u64 16] (w.alloc o) fun e w' => e = .returned (.int .i64 4) ∧ w.alloc o = w' from fun o => trail16' _ (cell_on (Joins.below_alloc1 w o) ht))
  clear ht
  go_enter Tryd.func88, Tryd.ntmps88
  go_wp2_with (first | (go_at_call 102; refine (powC _).mono ?_; rintro e w' ⟨rfl, rfl⟩) | (go_at_call 103; refine (T.out _).mono ?_; rintro e w' ⟨rfl, rfl⟩))
  go_loopw [1, 13] (fun u q wr => ∃ (k m : Nat) (ds : List UInt8), Hid (m * 16 ^ k ≤ 65535) ∧ k ≤ 3 ∧ m < 65536 ∧ u = .int .u64 (m : Int) ∧ q = .int .i64 (65 - (k : Int)) ∧ Hid (ds.length = k) ∧ Hid (hexN n = hexN m ++ ds) ∧ Hid (wr.heap[w.heap.size]? = some (.cells (cellsOf (hexRow65 k ds)).toArray 117 (0, 0))) ∧ Hid (Below w.heap.size w wr)) (fun u _ _ => (intOf u).toNat)
  case atStart => exact ⟨0, n, [], Lib.hid (by simp; omega), by omega, hn, rfl, rfl, Lib.hid rfl, Lib.hid (by simp), Lib.hid (by rw [← zeros65]; exact heap_alloc_new w _), Lib.hid (Joins.below_alloc1 w _)⟩
  case round =>
    obtain ⟨k, m, ds, hmk, hk, hm, rfl, rfl, hdl, hdig, hrow, hb⟩ := hrel
    have hidx := index_digits (m % 16) (by omega)
    by_cases h16 : m < 16
    · have h16I : ¬ (16 : Int) ≤ (m : Int) := by omega
      have hidx2 := index_digits m h16
      have R := heap_setCell_same wr w.heap.size (64 - k) _ _ (.int .u8 ((hexDig m).toNat : Int)) hrow.out
      rw [List.setIfInBounds_toArray, hexRow65_set k ds (hexDig m) (by omega)] at R
      have hc : ∃ v, wr.cell? ⟨w.heap.size, 64 - k, none⟩ = some v := by
        rw [cell_of_row wr _ (64 - k) _ _ _ hrow.out]
        exact ⟨_, Array.getElem?_eq_getElem (by rw [cells_size, hexRow65_len k ds (by omega) hdl.out]; omega)⟩
      obtain ⟨v, hc⟩ := hc
      have hfz := frozen_of_row wr w.heap.size (64 - k) _ _ hrow.out
      have hE := Lib.hid (show hexN n = hexDig m :: ds by rw [hdig.out, hexN_small m h16]; rfl)
      have hlen : (hexDig m :: ds).length = 65 - (64 - k) := by rw [List.length_cons, hdl.out]; omega
      have hrb : RB (wr.setCell ⟨w.heap.size, 64 - k, none⟩ (.int .u8 ((hexDig m).toNat : Int))) (w.heap.size + 1) (some ⟨w.heap.size, 64 - k, none⟩) (hexDig m :: ds) := by
        intro _
        refine ⟨w.heap.size, 64 - k, rfl, by omega, fun j u hu => ?_⟩
        rw [cell_of_row _ _ _ _ _ _ R]
        have : (hexRow65 (k + 1) (hexDig m :: ds))[64 - k + j]? = some u := by
          unfold hexRow65
          rw [List.getElem?_append_right (by simp)]
          simp only [List.length_replicate]
          rw [show 64 - k + j - (65 - (k + 1)) = j by omega]
          exact hu
        simpa using cellsOf_get _ _ _ this
      have hcv := conv_b _ _ (some ⟨w.heap.size, 64 - k, none⟩) (65 - (64 - k)) (65 - (64 - k)) (hexDig m :: ds) hlen hrb
      have hsl := slice_arr65 w.heap.size (64 - k) (by omega)
      have hB := Lib.hid (hb.out.setCell (p := ⟨w.heap.size, 64 - k, none⟩) (Nat.le_refl _) (.int .u8 ((hexDig m).toNat : Int)))
      obtain ⟨i, hi⟩ : ∃ i : Nat, i = 64 - k := ⟨_, rfl⟩
      have hiI : 65 - (k : Int) - 1 = (i : Int) := by omega
      rw [← hi] at hc hfz hcv hsl hB
      clear R hrb hlen hi hidx
      go_wp2
      go_ret2
      rw [hE.out]
      exact ⟨rfl, hB.out⟩
    · have h16I : (16 : Int) ≤ (m : Int) := by omega
      have hand := and_u64_15 m hm
      have hk2 : k ≤ 2 := by
        rcases (show k = 0 ∨ k = 1 ∨ k = 2 ∨ k = 3 by omega) with h | h | h | h
        · omega
        · omega
        · omega
        · have := hmk.out
          rw [h] at this
          omega
      obtain ⟨d, hd⟩ : ∃ d : Nat, d = m % 16 := ⟨_, rfl⟩
      obtain ⟨q, hq⟩ : ∃ q : Nat, q = m / 16 := ⟨_, rfl⟩
      have hqI : (m : Int) / 16 = (q : Int) := by omega
      have R := heap_setCell_same wr w.heap.size (64 - k) _ _ (.int .u8 ((hexDig d).toNat : Int)) hrow.out
      rw [List.setIfInBounds_toArray, hexRow65_set k ds (hexDig d) (by omega)] at R
      have HR := Lib.hid R
      have hc : ∃ v, wr.cell? ⟨w.heap.size, 64 - k, none⟩ = some v := by
        rw [cell_of_row wr _ (64 - k) _ _ _ hrow.out]
        exact ⟨_, Array.getElem?_eq_getElem (by rw [cells_size, hexRow65_len k ds (by omega) hdl.out]; omega)⟩
      obtain ⟨v, hc⟩ := hc
      have hfz := frozen_of_row wr w.heap.size (64 - k) _ _ hrow.out
      have hE := Lib.hid (show hexN n = hexN q ++ hexDig d :: ds by rw [hdig.out, hexN_big m h16, hd, hq, List.append_assoc]; rfl)
      have hB := Lib.hid (hb.out.setCell (p := ⟨w.heap.size, 64 - k, none⟩) (Nat.le_refl _) (.int .u8 ((hexDig d).toNat : Int)))
      have hMK := Lib.hid (show q * 16 ^ (k + 1) ≤ 65535 by
        have h1 := hmk.out
        have h2 : q * 16 ≤ m := by omega
        have h3 : q * 16 * 16 ^ k ≤ m * 16 ^ k := Nat.mul_le_mul_right _ h2
        rw [Nat.pow_succ, Nat.mul_comm (16 ^ k) 16, ← Nat.mul_assoc]
        omega)
      have hDL := Lib.hid (show (hexDig d :: ds).length = k + 1 by rw [List.length_cons, hdl.out])
      obtain ⟨i, hi⟩ : ∃ i : Nat, i = 64 - k := ⟨_, rfl⟩
      have hiI : 65 - (k : Int) - 1 = (i : Int) := by omega
      have hqm : q < m := by omega
      rw [← hd] at hand hidx
      rw [← hi] at hc hfz hB HR
      have HI := Lib.hid (show (i : Int) = 65 - ((k + 1 : Nat) : Int) by omega)
      clear R hi hd hq h16
      go_wp2
      go_roundw
      case rel => exact ⟨k + 1, q, hexDig d :: ds, hMK, by omega, by omega, rfl, by rw [HI.out], hDL, hE, HR, hB⟩
      case measure => simp [intOf]; omega

set_option maxRecDepth 100000 in
set_option maxHeartbeats 400000 in
theorem formatInt16 (n : Nat) (hn : n < 65536) (w : World) (ht : w.cell? ⟨3, 15, none⟩ = some (.int .u8 4)) :
    Calls Tryd.prog 34 #[.int .i64 (n : Int), .int .i64 16] w fun e w' => e = .returned (.string (strOf (hexN n))) ∧ Below w.heap.size w w' := by
  have T := Lib.hid (formatBits16 n hn w ht)
  clear ht
  go_enter Tryd.func34, Tryd.ntmps34
  go_wp2_with (first | (go_at_call 88; refine T.out.mono ?_; rintro e w1 ⟨rfl, b1⟩) | go_in)
  go_ret
  exact ⟨rfl, b1⟩
end Go.Proofs.YtckakpcjbndijabDoor
