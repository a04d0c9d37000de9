/-
  IPv6 packets as four integers, two addresses, extension headers and a body; rows of extension headers in memory. Plain: nothing here speaks of the program's functions.
-/
import Derived.Test.YtkmijefheejcjaaFourLib
import Derived.Test.YtkmijefheejcjaaRow
import Derived.Test.YtkmijefheejcjaaInBytes
import Derived.Laws.MakeOwn
import Derived.Laws.OwnMore
namespace Go.Proofs.Ytkmijefheejcjaa
set_option maxRecDepth 100000
open Go.RowKit

/-- An extension header, and where its body lies. -/
structure Ey where
  k : Int
  bs : List UInt8
  A : Option Addr
  c : Nat
def Ey.zero : Ey := ⟨0, [], none, 0⟩
def Ey.body (y : Ey) : Value := .slice y.A y.bs.length y.c
def Ey.cells (y : Ey) : List Value := [.int .i64 y.k, .slice y.A y.bs.length y.c]
/-- What it says. -/
def Ey.says (y : Ey) : Int × List UInt8 := (y.k, y.bs)
def xcells (ys : List Ey) : List Value := ys.flatMap Ey.cells

theorem xcells_nil : xcells [] = [] := rfl
theorem xcells_cons (y : Ey) (ys : List Ey) : xcells (y :: ys) = .int .i64 y.k :: .slice y.A y.bs.length y.c :: xcells ys := by simp [xcells, Ey.cells]
theorem xcells_append (ys zs : List Ey) : xcells (ys ++ zs) = xcells ys ++ xcells zs := by simp [xcells]
theorem xcells_length (ys : List Ey) : (xcells ys).length = ys.length * 2 := by
  induction ys with
  | nil => rfl
  | cons y ys ih => rw [xcells_cons]; simp [ih]; omega
theorem xcells_get0 (ys : List Ey) (i : Nat) (h : i < ys.length) : (xcells ys)[i * 2]? = some (.int .i64 ys[i].k) := by
  induction ys generalizing i with
  | nil => simp at h
  | cons y ys ih =>
    rw [xcells_cons]
    cases i with
    | zero => simp
    | succ i => simp at h; simp [Nat.succ_mul, ih i h]
theorem xcells_get1 (ys : List Ey) (i : Nat) (h : i < ys.length) : (xcells ys)[i * 2 + 1]? = some (.slice ys[i].A ys[i].bs.length ys[i].c) := by
  induction ys generalizing i with
  | nil => simp at h
  | cons y ys ih =>
    rw [xcells_cons]
    cases i with
    | zero => simp
    | succ i => simp at h; rw [Nat.succ_mul]; simp [ih i h]
theorem xcells_one (ys : List Ey) : ∀ u ∈ xcells ys, u.oneCell' = true := by
  intro u hu
  simp only [xcells, List.mem_flatMap] at hu
  obtain ⟨y, _, hy⟩ := hu
  simp only [Ey.cells, List.mem_cons, List.not_mem_nil, or_false] at hy
  rcases hy with rfl | rfl <;> rfl
theorem xcells_set (ys : List Ey) (e y : Ey) (zs : List Ey) (i : Nat) (h : ys.length = i) : ((xcells (ys ++ e :: zs)).set (i * 2) (.int .i64 y.k)).set (i * 2 + 1) (.slice y.A y.bs.length y.c) = xcells (ys ++ y :: zs) := by
  rw [xcells_append, xcells_append, xcells_cons, xcells_cons]
  have hl := xcells_length ys
  rw [set_mid _ _ _ _ _ (by rw [hl, h])]
  rw [show xcells ys ++ Value.int .i64 y.k :: Value.slice e.A e.bs.length e.c :: xcells zs = (xcells ys ++ [Value.int .i64 y.k]) ++ Value.slice e.A e.bs.length e.c :: xcells zs by simp]
  rw [set_mid _ _ _ _ _ (by simp [hl, h])]
  simp
theorem made_two (n : Nat) : (madeCells #[Value.int .i64 0, .slice none 0 0] (n * 2)).toList = xcells (List.replicate n Ey.zero) := by
  apply List.ext_getElem?
  intro i
  simp only [madeCells, Array.toList_map, Array.toList_range, List.getElem?_map]
  by_cases h : i < n * 2
  · rw [List.getElem?_range h]
    have h1 : i / 2 < (List.replicate n Ey.zero).length := by simp; omega
    rcases Nat.mod_two_eq_zero_or_one i with e | e
    · have e2 : i = (i / 2) * 2 := by omega
      rw [e2, xcells_get0 _ _ h1]
      simp [Ey.zero]
    · have e2 : i = (i / 2) * 2 + 1 := by omega
      rw [e2, xcells_get1 _ _ h1]
      simp [Ey.zero, Nat.add_mod]
  · rw [List.getElem?_eq_none (show (List.range (n * 2)).length ≤ i by simp; omega), List.getElem?_eq_none (show (xcells (List.replicate n Ey.zero)).length ≤ i by rw [xcells_length]; simp; omega)]
    rfl

/-- The bytes of the bodies in all. -/
def bodies (ys : List Ey) : Nat := (ys.map fun y => y.bs.length).sum
theorem bodies_take (ys : List Ey) (i : Nat) (h : i < ys.length) : bodies (ys.take (i + 1)) = bodies (ys.take i) + ys[i].bs.length := by
  rw [take_snoc ys i h]
  simp only [bodies, List.map_append, List.sum_append, List.map_cons, List.map_nil, List.sum_cons, List.sum_nil, Nat.add_zero]
theorem bodies_le (ys : List Ey) (i : Nat) : bodies (ys.take i) ≤ bodies ys := by
  induction ys generalizing i with
  | nil => simp [bodies]
  | cons y ys ih =>
    cases i with
    | zero => simp [bodies]
    | succ i => simp [bodies]; have := ih i; simp [bodies] at this; omega
theorem bodies_at (ys : List Ey) (i : Nat) (h : i < ys.length) : ys[i].bs.length ≤ bodies ys := by
  have := bodies_take ys i h
  have := bodies_le ys (i + 1)
  omega

/-- A row of extension headers that can be read, with its bodies. -/
structure XR (w : World) (B : Nat) (A : Option Addr) (ys : List Ey) : Prop where
  row : RV w B A (xcells ys)
  body : ∀ y ∈ ys, RB w B y.A y.bs
section
variable {w w' : World} {B B' : Nat} {A : Option Addr} {ys : List Ey}
theorem XR.below (h : XR w B A ys) (hb : Below B w w') : XR w' B A ys := ⟨h.row.below hb, fun y hy => (h.body y hy).below hb⟩
theorem XR.more (h : XR w B A ys) (hB : B ≤ B') : XR w B' A ys := ⟨h.row.more hB, fun y hy => (h.body y hy).more hB⟩
theorem XR.on (h : XR w w.heap.size A ys) (hb : Below w.heap.size w w') : XR w' w'.heap.size A ys := (h.below hb).more hb.size
theorem XR.at_ (h : XR w B A ys) {i : Nat} (hi : i < ys.length) : ∃ g o, A = some ⟨g, o, none⟩ ∧ g < B ∧ w.cell? ⟨g, o + i * 2, none⟩ = some (.int .i64 ys[i].k) ∧ w.cell? ⟨g, o + i * 2 + 1, none⟩ = some (.slice ys[i].A ys[i].bs.length ys[i].c) := by
  obtain ⟨g, o, e, hg, hc⟩ := h.row (by rw [xcells_length]; omega)
  exact ⟨g, o, e, hg, hc _ _ (xcells_get0 ys i hi), by rw [Nat.add_assoc]; exact hc _ _ (xcells_get1 ys i hi)⟩
end

/-- A row of extension headers that came in. -/
structure XIn (w : World) (A : Option Addr) (n c : Nat) (ys : List Ey) : Prop where
  len : ys.length = n
  cap : n ≤ c
  big : c ≤ maxLen
  row : RV w w.heap.size A (xcells ys)
  body : ∀ y ∈ ys, In w y.A y.bs.length y.c y.bs
theorem XIn.xr {w : World} {A : Option Addr} {n c : Nat} {ys : List Ey} (h : XIn w A n c ys) : XR w w.heap.size A ys := ⟨h.row, fun y hy => (h.body y hy).rb⟩

/-- The head of a packet, but for its extension headers. -/
structure Sh where
  cls : Int
  label : Int
  hops : Int
  proto : Int
  src : Ad
  dst : Ad
deriving DecidableEq
def Sh.zero : Sh := ⟨0, 0, 0, 0, Ad.zero, Ad.zero⟩
def inner (k : Int) : Bool := decide (k = 0 ∨ k = 43 ∨ k = 60)
def adOk6 (x : Ad) : Bool := decide (x.k = 6) && x.ok
/-- May an extension header of this kind with n bytes of a body lie at place i? -/
def extOk (i : Nat) (e : Int × List UInt8) : Bool := inner e.1 && !(decide (e.1 = 0) && decide (0 < i)) && decide (e.2.length ≤ 62) && decide (e.2.length % 8 = 6)
def extsFrom : Nat → List (Int × List UInt8) → Bool
  | _, [] => true
  | i, e :: es => extOk i e && extsFrom (i + 1) es
def extsOk (es : List (Int × List UInt8)) : Bool := decide (es.length ≤ 3) && extsFrom 0 es
def extsSize (es : List (Int × List UInt8)) : Nat := (es.map fun e => 2 + e.2.length).sum
def Sh.small (x : Sh) : Bool := upTo x.cls 255 && upTo x.label 1048575 && upTo x.hops 255 && upTo x.proto 255 && !inner x.proto
def Sh.ok (x : Sh) (es : List (Int × List UInt8)) (m : Nat) : Bool := x.small && adOk6 x.src && adOk6 x.dst && extsOk es && decide ((m : Int) ≤ 1460 - extsSize es)
theorem extsSize_take {es : List (Int × List UInt8)} {i : Nat} (h : i < es.length) : extsSize (es.take (i + 1)) = extsSize (es.take i) + (2 + es[i].2.length) := by
  rw [take_snoc es i h]
  simp only [extsSize, List.map_append, List.sum_append, List.map_cons, List.map_nil, List.sum_cons, List.sum_nil, Nat.add_zero]
theorem extsFrom_take {es : List (Int × List UInt8)} {i : Nat} (h : i < es.length) : extsFrom 0 (es.take (i + 1)) = (extsFrom 0 (es.take i) && extOk i es[i]) := by
  suffices H : ∀ j, extsFrom j (es.take (i + 1)) = (extsFrom j (es.take i) && extOk (j + i) es[i]) by simpa using H 0
  induction es generalizing i with
  | nil => simp at h
  | cons e es ih =>
    intro j
    cases i with
    | zero => simp [extsFrom]
    | succ i =>
      simp at h
      have := ih h (j + 1)
      rw [List.take_succ_cons, List.take_succ_cons, extsFrom, extsFrom, this, Bool.and_assoc]
      simp [show j + 1 + i = j + (i + 1) by omega]
theorem extsFrom_prefix {es : List (Int × List UInt8)} (i j : Nat) (h : extsFrom j es = true) : extsFrom j (es.take i) = true := by
  induction es generalizing i j with
  | nil => simp [extsFrom]
  | cons e es ih =>
    cases i with
    | zero => rfl
    | succ i =>
      rw [extsFrom, Bool.and_eq_true] at h
      rw [List.take_succ_cons, extsFrom, Bool.and_eq_true]
      exact ⟨h.1, ih i _ h.2⟩
end Go.Proofs.Ytkmijefheejcjaa
