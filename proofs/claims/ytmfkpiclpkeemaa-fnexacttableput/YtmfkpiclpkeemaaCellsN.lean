/-
  Stores into the first cells of a block, one after the other, whatever their number. Plain: any program.
-/
import Derived.Test.YtmfkpiclpkeemaaCells
import Derived.Test.YtmfkpiclpkeemaaCurD
namespace Go.Proofs.Ytmfkpiclpkeemaa.K
open Go.RowKit

/-- The cells from i on of block g are stored, one after the other. -/
def setFrom (w : World) (g : Nat) : Nat → List Value → World
  | _, [] => w
  | i, v :: vs => setFrom (w.setCell ⟨g, i, none⟩ v) g (i + 1) vs

theorem set_drop (cs : Array Value) (i : Nat) (v : Value) (vs : List Value) (h : i + (v :: vs).length = cs.size) : (cs.toList.take i ++ v :: vs).toArray = ((cs.setIfInBounds i v).toList.take (i + 1) ++ vs).toArray := by
  have hi : i < cs.toList.length := by simp at h ⊢; omega
  rw [Array.toList_setIfInBounds]
  congr 1
  rw [List.take_succ_eq_append_getElem (by rw [List.length_set]; exact hi), List.take_set_of_le (Nat.le_refl _), List.getElem_set_self, List.append_assoc]
  rfl

section
variable {w W : World} {g : Nat}
theorem setFrom_row {t : TypeId} : ∀ (vs : List Value) (w : World) (i : Nat) (cs : Array Value), w.heap[g]? = some (.cells cs t (0, 0)) → i + vs.length = cs.size → (setFrom w g i vs).heap[g]? = some (.cells (cs.toList.take i ++ vs).toArray t (0, 0))
  | [], w, i, cs, h, hl => by
    have e : cs.toList.take i = cs.toList := List.take_of_length_le (by simp at hl ⊢; omega)
    rw [e, List.append_nil]
    exact h
  | v :: vs, w, i, cs, h, hl => by
    rw [setFrom, setFrom_row vs _ (i + 1) _ (set h i v) (by simp at hl ⊢; omega), set_drop cs i v vs hl]
/-- All cells of a block are stored. -/
theorem setAll {t : TypeId} {cs : Array Value} (vs : List Value) (h : w.heap[g]? = some (.cells cs t (0, 0))) (hl : vs.length = cs.size) : (setFrom w g 0 vs).heap[g]? = some (.cells vs.toArray t (0, 0)) := by
  have := setFrom_row vs w 0 cs h (by omega)
  simpa using this
theorem setFrom_keeps (p : World → Prop) (hp : ∀ v i u, p v → p (v.setCell ⟨g, i, none⟩ u)) : ∀ (vs : List Value) (w : World) (i : Nat), p w → p (setFrom w g i vs)
  | [], _, _, h => h
  | v :: vs, w, i, h => setFrom_keeps p hp vs _ (i + 1) (hp w i v h)
theorem setFrom_other {b : Nat} {o : Obj} (vs : List Value) (i : Nat) (h : w.heap[b]? = some o) (hne : b ≠ g) : (setFrom w g i vs).heap[b]? = some o :=
  setFrom_keeps (fun v => v.heap[b]? = some o) (fun _ i u h => other h g i u hne) vs w i h
theorem setFrom_own {base : Nat} {e : TypeId} {size n : Nat} {v : Value} {xs : List Value} (vs : List Value) (i : Nat) (h : w.ownsRow base e size v n xs) (hg : g < base) : (setFrom w g i vs).ownsRow base e size v n xs :=
  setFrom_keeps (fun u => u.ownsRow base e size v n xs) (fun u i x h => own_grown h (grownBy_set u g i x) (fun k hk => by have := (h.lt k hk).1; simp; omega)) vs w i h
theorem setFrom_below {B : Nat} (vs : List Value) (i : Nat) (h : Below B W w) (hg : B ≤ g) : Below B W (setFrom w g i vs) :=
  setFrom_keeps (fun u => Below B W u) (fun _ i x h => h.setCell (p := ⟨g, i, none⟩) hg x) vs w i h
theorem setFrom_cur {c : Nat} {A : Option Addr} {d : Nat} {bs : List UInt8} {t s : Nat} (vs : List Value) (i : Nat) (h : CurS w c A d bs t s) (hg : c < g) : CurS (setFrom w g i vs) c A d bs t s :=
  setFrom_keeps (fun u => CurS u c A d bs t s) (fun u i x h => h.grownBy (grownBy_set u g i x) (fun k hk => by cases hk; exact hg)) vs w i h
theorem setFrom_grown {row : Option Nat} (vs : List Value) (i : Nat) (h : W.grownBy w row) (hg : W.heap.size ≤ g) : W.grownBy (setFrom w g i vs) row :=
  setFrom_keeps (fun u => W.grownBy u row) (fun u i x h => grown_other h (grownBy_set u g i x) (fun k hk => by cases hk; exact hg)) vs w i h
end

/-- The nested stores of a walk are such stores: a trial. -/
theorem setFrom_three (w : World) (g : Nat) (a b c : Value) : ((w.setCell ⟨g, 0, none⟩ a).setCell ⟨g, 1, none⟩ b).setCell ⟨g, 2, none⟩ c = setFrom w g 0 [a, b, c] := rfl
theorem setFrom_nineteen {w : World} {base g n : Nat} {e : TypeId} {u : Value} {xs : List Value} (v0 v1 v2 v3 v4 v5 v6 v7 v8 v9 v10 v11 v12 v13 v14 v15 v16 v17 v18 : Value) (h : w.ownsRow base e 1 u n xs) (hg : g < base) : (((((((((((((((((((w.setCell ⟨g, 0, none⟩ v0).setCell ⟨g, 1, none⟩ v1).setCell ⟨g, 2, none⟩ v2).setCell ⟨g, 3, none⟩ v3).setCell ⟨g, 4, none⟩ v4).setCell ⟨g, 5, none⟩ v5).setCell ⟨g, 6, none⟩ v6).setCell ⟨g, 7, none⟩ v7).setCell ⟨g, 8, none⟩ v8).setCell ⟨g, 9, none⟩ v9).setCell ⟨g, 10, none⟩ v10).setCell ⟨g, 11, none⟩ v11).setCell ⟨g, 12, none⟩ v12).setCell ⟨g, 13, none⟩ v13).setCell ⟨g, 14, none⟩ v14).setCell ⟨g, 15, none⟩ v15).setCell ⟨g, 16, none⟩ v16).setCell ⟨g, 17, none⟩ v17).setCell ⟨g, 18, none⟩ v18).ownsRow base e 1 u n xs := setFrom_own [v0, v1, v2, v3, v4, v5, v6, v7, v8, v9, v10, v11, v12, v13, v14, v15, v16, v17, v18] 0 h hg
end Go.Proofs.Ytmfkpiclpkeemaa.K
