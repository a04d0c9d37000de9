/-
  What is kept while a struct is drawn field by field: the cursor, the struct's block, the result's block.
-/
import Derived.Test.YtdndanbalmoklaaPfxDraw2
import Derived.Test.YtdndanbalmoklaaCells
import Derived.Test.YtdndanbalmoklaaRegGrow
import Derived.Deep.WholeRow
import Derived.Deep.Cut
import Derived.Deep.DeepCutAuto
import Derived.Deep.CutBlock
import Derived.ProofKit
namespace Go.Proofs.Ytdndanbalmoklaa
set_option maxRecDepth 100000
open Go.RowKit

/-- The cursor (block g) at t; only its block and new ones have turned since W; block r holds Z. -/
structure DS0 (T : TypeId) (W : World) (g : Nat) (A : Option Addr) (c : Nat) (bs : List UInt8) (r : Nat) (Z : Array Value) (t : Nat) (w : World) : Prop where
  cur : Cur w g A c bs t
  grown : W.grownBy w (some g)
  res : w.heap[r]? = some (.cells Z T (0, 0))
  far : g < W.heap.size ∧ W.heap.size ≤ r
/-- And block b holds cs. -/
structure DS1 (T : TypeId) (W : World) (g : Nat) (A : Option Addr) (c : Nat) (bs : List UInt8) (r : Nat) (Z : Array Value) (b : Nat) (cs : Array Value) (t : Nat) (w : World) : Prop extends DS0 T W g A c bs r Z t w where
  row : w.heap[b]? = some (.cells cs T (0, 0))
  off : W.heap.size ≤ b ∧ r ≠ b

section
variable {T : TypeId} {W w w' : World} {g : Nat} {A : Option Addr} {c : Nat} {bs : List UInt8} {r b : Nat} {Z cs : Array Value} {t t' : Nat}
theorem DS0.kept (h : DS0 T W g A c bs r Z t w) (hg : w.grownBy w' (some g)) (hc : Cur w' g A c bs t') : DS0 T W g A c bs r Z t' w' :=
  ⟨hc, grownBy_trans h.grown hg, row_kept hg (by have := h.far; omega) h.res, h.far⟩
theorem DS1.kept (h : DS1 T W g A c bs r Z b cs t w) (hg : w.grownBy w' (some g)) (hc : Cur w' g A c bs t') : DS1 T W g A c bs r Z b cs t' w' :=
  ⟨h.toDS0.kept hg hc, row_kept hg (by have := h.far; have := h.off; omega) h.row, h.off⟩
theorem DS0.alloc (h : DS0 T W g A c bs r Z t w) (o : Obj) : DS0 T W g A c bs r Z t (w.alloc o) :=
  ⟨h.cur.below (Joins.below_alloc1 w o), only_new h.grown o, K.old h.res o, h.far⟩
theorem DS1.alloc (h : DS1 T W g A c bs r Z b cs t w) (o : Obj) : DS1 T W g A c bs r Z b cs t (w.alloc o) :=
  ⟨h.toDS0.alloc o, K.old h.row o, h.off⟩
theorem DS1.drew (h : DS1 T W g A c bs r Z b cs t w) : DS1 T W g A c bs r Z b cs t w.drew :=
  ⟨⟨h.cur.drewN 1, ⟨h.grown.os, h.grown.tape, h.grown.output, h.grown.size, h.grown.block⟩, h.res, h.far⟩, h.row, h.off⟩
theorem DS1.below (h : DS1 T W g A c bs r Z b cs t w) (hb : Below w.heap.size w w') : DS1 T W g A c bs r Z b cs t w' :=
  ⟨⟨h.cur.below hb, grown_below h.grown hb, K.below hb h.res, h.far⟩, K.below hb h.row, h.off⟩
/-- The struct's own block is made. -/
theorem DS0.made (h : DS0 T W g A c bs r Z t w) (cs : Array Value) : DS1 T W g A c bs r Z w.heap.size cs t (w.alloc (.cells cs T)) :=
  ⟨h.alloc _, K.new w _, ⟨h.grown.size, by have := K.lt h.res; omega⟩⟩
theorem DS1.set (h : DS1 T W g A c bs r Z b cs t w) (j : Nat) (v : Value) : DS1 T W g A c bs r Z b (cs.setIfInBounds j v) t (w.setCell ⟨b, j, none⟩ v) :=
  ⟨⟨h.cur.grownBy (grownBy_set w b j v) (fun u hu => by cases hu; have := h.far; have := h.off; omega), grown_other h.grown (grownBy_set w b j v) (fun u hu => by cases hu; exact h.off.1), K.other h.res b j v h.off.2, h.far⟩, K.set h.row j v, h.off⟩
theorem DS1.ended (h : DS1 T W g A c bs r Z b cs t w) (ds : Array Value) : Cur (w.setRow r ds) g A c bs t ∧ W.grownBy (w.setRow r ds) (some g) :=
  have k : w.grownBy (w.setRow r ds) (some r) := ⟨rfl, rfl, rfl, by simp, fun k _ hk => setRow_other w r k ds (fun e => hk (by rw [e]))⟩
  ⟨h.cur.grownBy k (fun u hu => by cases hu; have := h.far; omega), grown_other h.grown k (fun u hu => by cases hu; exact h.far.2)⟩
end
/-- Some whole number. -/
def SomeI (_ : World) (v : Value) : Prop := ∃ z : Int, v = .int .i64 z
theorem SomeI.on : ∀ w w' v, Below w.heap.size w w' → SomeI w v → SomeI w' v := fun _ _ _ _ h => h
theorem SomeI.gr {blk : Option Nat} : ∀ (w w' : World) v, w.grownBy w' blk → SomeI w v → SomeI w' v := fun _ _ _ _ h => h
theorem lit_cell (w : World) (xs : List Int) (j : Nat) (h : j < xs.length) : ∃ z : Int, (w.alloc (.cells (xs.map (fun x => Value.int .i64 x)).toArray 3)).cell? ⟨w.heap.size, j, none⟩ = some (.int .i64 z) := by
  rw [cell_of_row _ w.heap.size j _ 3 (0, 0) (heap_alloc_new w _)]
  exact ⟨xs[j], by simp [List.getElem?_eq_getElem h]⟩
theorem lit_kept {w w' : World} {g : Nat} {v : Value} {o : Obj} {j : Nat} (hg : (w.alloc o).grownBy w' (some g)) (h : (w.alloc o).cell? ⟨w.heap.size, j, none⟩ = some v) (hne : g < w.heap.size) : w'.cell? ⟨w.heap.size, j, none⟩ = some v :=
  hg.cell h (fun e => by have h2 : w.heap.size = g := Option.some.inj e; omega)
end Go.Proofs.Ytdndanbalmoklaa
