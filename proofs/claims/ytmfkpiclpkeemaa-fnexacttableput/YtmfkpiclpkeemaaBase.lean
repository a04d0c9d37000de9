/-
  Small facts on memory that the walks of this seat share: a slice of bytes that reads as a list, rows of the call's own. Nothing here speaks of the program.
-/
import Derived.WalkKit
import Derived.Deep.Draws
import Derived.Lib.Hide
namespace Go.Proofs.Ytmfkpiclpkeemaa
set_option maxRecDepth 100000
open Go.RowKit

/-- The cells of a list of bytes. -/
def cellsOf (bs : List UInt8) : List Value := bs.map fun b => .int .u8 (b.toNat : Int)

/-- The slice that begins at A reads as the bytes bs, and lies below block number B. -/
def RB (w : World) (B : Nat) (A : Option Addr) (bs : List UInt8) : Prop :=
  0 < bs.length → ∃ g o, A = some ⟨g, o, none⟩ ∧ g < B ∧ ∀ j (u : UInt8), bs[j]? = some u → w.cell? ⟨g, o + j, none⟩ = some (.int .u8 (u.toNat : Int))

theorem cellsOf_length (bs : List UInt8) : (cellsOf bs).length = bs.length := by simp [cellsOf]
theorem cellsOf_get (bs : List UInt8) (j : Nat) (u : UInt8) (h : bs[j]? = some u) : (cellsOf bs)[j]? = some (.int .u8 (u.toNat : Int)) := by simp [cellsOf, h]
theorem cellsOf_append (a b : List UInt8) : cellsOf (a ++ b) = cellsOf a ++ cellsOf b := by simp [cellsOf]
theorem cellsOf_one (bs : List UInt8) : ∀ u ∈ cellsOf bs, u.oneCell' = true := by
  intro u hu
  simp only [cellsOf, List.mem_map] at hu
  obtain ⟨b, _, rfl⟩ := hu
  rfl

section
variable {w w' : World} {B B' : Nat} {A : Option Addr} {bs : List UInt8}

theorem RB.below (h : RB w B A bs) (hb : Below B w w') : RB w' B A bs := by
  intro hp
  obtain ⟨g, o, e, hg, hc⟩ := h hp
  exact ⟨g, o, e, hg, fun j u hu => (hb.cell (p := ⟨g, o + j, none⟩) hg).trans (hc j u hu)⟩

theorem RB.more (h : RB w B A bs) (hB : B ≤ B') : RB w B' A bs := by
  intro hp
  obtain ⟨g, o, e, hg, hc⟩ := h hp
  exact ⟨g, o, e, by omega, hc⟩

theorem RB.at_ (h : RB w B A bs) {k : Nat} (hk : k < bs.length) : ∃ g o, A = some ⟨g, o, none⟩ ∧ g < B ∧ w.cell? ⟨g, o + k, none⟩ = some (.int .u8 (bs[k].toNat : Int)) := by
  obtain ⟨g, o, e, hg, hc⟩ := h (by omega)
  exact ⟨g, o, e, hg, hc k _ (List.getElem?_eq_getElem hk)⟩

theorem RB.nil_ (w : World) (B : Nat) (A : Option Addr) : RB w B A [] := fun h => absurd h (by simp)

theorem RB.of_own {base : Nat} {e : TypeId} {n c : Nat} (h : w.ownsRow base e 1 (.slice A n c) n (cellsOf bs)) : RB w w.heap.size A bs := by
  intro hp
  have hl := h.1
  rw [cellsOf_length] at hl
  rcases h.2 with ⟨h1, h2⟩ | ⟨g, cap, cur, hv, _, hg, _⟩
  · omega
  · injection hv with hA hn hc
    subst hA
    subst hc
    refine ⟨g, 0, rfl, (Array.getElem?_eq_some_iff.1 hg).1, fun j u hu => ?_⟩
    have hj : j < bs.length := by
      rcases Nat.lt_or_ge j bs.length with h | h
      · exact h
      · rw [List.getElem?_eq_none h] at hu; cases hu
    have := h.cellAt j (by omega)
    rw [Nat.zero_add, this]
    exact cellsOf_get bs j u hu
end

/-- What a world owns stays owned in a world that is as it was below all its blocks. -/
theorem own_below {w w' : World} {base : Nat} {e : TypeId} {size n : Nat} {v : Value} {xs : List Value} (h : w.ownsRow base e size v n xs) (hb : Below w.heap.size w w') : w'.ownsRow base e size v n xs := by
  refine ⟨h.1, ?_⟩
  rcases h.2 with hn | ⟨g, cap, cur, rfl, hbase, hg, rest⟩
  · exact .inl hn
  · exact .inr ⟨g, cap, cur, rfl, hbase, (hb.block g (Array.getElem?_eq_some_iff.1 hg).1).trans hg, rest⟩

theorem own_base {w : World} {base base' : Nat} {e : TypeId} {size n : Nat} {v : Value} {xs : List Value} (h : w.ownsRow base e size v n xs) (hb : base' ≤ base) : w.ownsRow base' e size v n xs := by
  refine ⟨h.1, ?_⟩
  rcases h.2 with hn | ⟨g, cap, cur, rfl, hbase, rest⟩
  · exact .inl hn
  · exact .inr ⟨g, cap, cur, rfl, by omega, rest⟩

theorem below_drewN {B : Nat} {a w : World} (h : Below B a w) (n : Nat) : Below B a (w.drewN n) := ⟨h.os, h.tape, h.output, h.size, h.block⟩

theorem ret_int {k : IntKind} {a b : Int} (h : a = b) : Ending.returned (.int k a) = .returned (.int k b) := by rw [h]
theorem ret_bool {a b : Bool} (h : a = b) : Ending.returned (.bool a) = .returned (.bool b) := by rw [h]

theorem set_mid (a : List Value) (x v : Value) (t : List Value) (k : Nat) (hk : a.length = k) : (a ++ x :: t).set k v = a ++ v :: t := by
  subst hk
  simp

/-- A row that is being filled: one cell more. -/
theorem fill_step (pre tail : List UInt8) (x b : UInt8) (k : Nat) (hk : pre.length = k) :
    (cellsOf (pre ++ x :: tail)).set k (.int .u8 (b.toNat : Int)) = cellsOf ((pre ++ [b]) ++ tail) := by
  have h := set_mid (cellsOf pre) (.int .u8 (x.toNat : Int)) (.int .u8 (b.toNat : Int)) (cellsOf tail) k (by rw [cellsOf_length]; exact hk)
  simpa [cellsOf] using h

theorem take_snoc {T : Type} (l : List T) (k : Nat) (h : k < l.length) : l.take (k + 1) = l.take k ++ [l[k]] := List.take_succ_eq_append_getElem h

theorem copy_step (bs : List UInt8) (k : Nat) (h : k < bs.length) :
    (cellsOf (bs.take k ++ List.replicate (bs.length - k) 0)).set k (.int .u8 (bs[k].toNat : Int)) = cellsOf (bs.take (k + 1) ++ List.replicate (bs.length - (k + 1)) 0) := by
  rw [show bs.length - k = (bs.length - (k + 1)) + 1 by omega, List.replicate_succ, fill_step _ _ _ _ k (by simp; omega), take_snoc bs k h]

/-- What is owned is a slice of that length. -/
theorem own_form {w : World} {base : Nat} {e : TypeId} {size n : Nat} {v : Value} {xs : List Value} (h : w.ownsRow base e size v n xs) : ∃ A c, v = .slice A n c := by
  rcases h.2 with ⟨rfl, rfl⟩ | ⟨g, cap, cur, rfl, _⟩
  · exact ⟨_, _, rfl⟩
  · exact ⟨_, _, rfl⟩
theorem bthen {a b c : World} (h : Below a.heap.size a b) (k : Below b.heap.size b c) : Below a.heap.size a c := h.trans (k.mono h.size)
theorem bgrown {a b c : World} {row : Option Nat} (h : Below a.heap.size a b) (g : b.grownBy c row) (l : ∀ k, row = some k → a.heap.size ≤ k) : Below a.heap.size a c := h.grown g h.size l

/-- What is owned from a block on which w' has kept is owned there still, whatever other row has turned. -/
theorem own_grown {w w' : World} {base : Nat} {e : TypeId} {size n : Nat} {v : Value} {xs : List Value} {row : Option Nat} (h : w.ownsRow base e size v n xs) (hg : w.grownBy w' row) (hne : ∀ k, v.ownBlock = some k → row ≠ some k) : w'.ownsRow base e size v n xs := by
  refine h.kept hg ?_
  cases hv : v.ownBlock with
  | none => exact .inl rfl
  | some k => exact .inr (fun e => hne k hv e.symm)

/-- A row that was there before another one was made is not that one. -/
theorem apart_of {v u : Value} {b B B' : Nat} (l1 : ∀ k, v.ownBlock = some k → b ≤ k ∧ k < B) (l2 : ∀ k, u.ownBlock = some k → B ≤ k ∧ k < B') : ∀ k, v.ownBlock = some k → u.ownBlock ≠ some k := by
  intro k h1 h2
  have := l1 k h1
  have := l2 k h2
  omega
end Go.Proofs.Ytmfkpiclpkeemaa
