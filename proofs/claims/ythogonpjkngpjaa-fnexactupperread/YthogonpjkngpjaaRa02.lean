/-
  The model's cursor over a code of bytes: it hands out numbers. All that the laws need of it: the number is in its range, the cursor stays one, nothing else has turned. The cursor's other ways to hand out numbers. Blocks of cells as one fact each: their cells, how they are carried over calls. Plain: any program. The model's cursor, number by number: what it hands out hangs on the code, the place and the seed alone. Stores into the first cells of a block, one after the other, whatever their number. Plain: any program. Blocks of nineteen cells as one fact each. Plain: any program. Blocks of fourteen cells as one fact each. Plain: any program. The laws' own helpers on addresses and prefixes; AddrOk in the program and in the model. The laws' own helpers on IPv4 packets: a size, a copy, a comparison, a marking, a look at the marks. The laws' own copy of an IPv4 packet. The laws' own comparison of IPv4 packets, their marking and a look at the marks. A region that draws its order, by what each of its operations leaves: whatever order is drawn, each operation finds what those leave on which it waits. Plain: any program.
-/
import Derived.Test.YthogonpjkngpjaaRa01
import Derived.Laws.ResultCell
import Derived.Handy
import Derived.Lib.SmallJoins
import Derived.Deep.QuietTactic
import Derived.BigQuiet
import Derived.Laws.Tables
import Derived.Orders
namespace Go.Proofs.Ythogonpjkngpjaa
set_option maxRecDepth 100000
open Go.RowKit

/-- The cursor lies in block g: the code (it reads as bs and lies below g), how many numbers have been handed out, the seed. -/
structure Cur (w : World) (g : Nat) (A : Option Addr) (c : Nat) (bs : List UInt8) (t : Nat) : Prop where
  blk : ∃ seed : Nat, seed < 65521 ∧ w.heap[g]? = some (.cells #[.slice A bs.length c, .int .i64 (t : Int), .int .i64 (seed : Int)] 116 (0, 0))
  rb : RB w g A bs
  small : bs.length ≤ 1048576

section
variable {w w' : World} {g : Nat} {A : Option Addr} {c : Nat} {bs : List UInt8} {t : Nat}
theorem Cur.lt (h : Cur w g A c bs t) : g < w.heap.size := by
  obtain ⟨seed, _, hb⟩ := h.blk
  exact (Array.getElem?_eq_some_iff.1 hb).1
theorem RB.grownBy {B : Nat} {row : Nat} (h : RB w B A bs) (hg : w.grownBy w' (some row)) (hB : B ≤ row) : RB w' B A bs := by
  intro hp
  obtain ⟨b, o, e, hb, hc⟩ := h hp
  refine ⟨b, o, e, hb, fun j u hu => ?_⟩
  exact hg.cell (hc j u hu) (by simp; omega)
theorem Cur.setAt (h : Cur w g A c bs t) (t' : Nat) : Cur (w.setCell ⟨g, 1, none⟩ (.int .i64 (t' : Int))) g A c bs t' ∧ w.grownBy (w.setCell ⟨g, 1, none⟩ (.int .i64 (t' : Int))) (some g) := by
  have hg : w.grownBy (w.setCell ⟨g, 1, none⟩ (.int .i64 (t' : Int))) (some g) := ⟨rfl, rfl, rfl, by simp, fun k _ hk => heap_setCell_other w ⟨g, 1, none⟩ k _ (fun e => hk (by simp [e]))⟩
  obtain ⟨seed, hs, hb⟩ := h.blk
  refine ⟨⟨⟨seed, hs, ?_⟩, h.rb.grownBy hg (Nat.le_refl _), h.small⟩, hg⟩
  rw [heap_setCell_same w g 1 _ _ _ hb]
  rfl
theorem Cur.cells (h : Cur w g A c bs t) : ∃ seed : Nat, seed < 65521 ∧ w.cell? ⟨g, 0, none⟩ = some (.slice A bs.length c) ∧ w.cell? ⟨g, 1, none⟩ = some (.int .i64 (t : Int)) ∧ w.cell? ⟨g, 2, none⟩ = some (.int .i64 (seed : Int)) ∧
    (∀ i, w.frozen? ⟨g, i, none⟩ = false) := by
  obtain ⟨seed, hs, hb⟩ := h.blk
  refine ⟨seed, hs, ?_, ?_, ?_, fun i => frozen_of_row w g i _ _ hb⟩ <;> (rw [cell_of_row w g _ _ _ (0, 0) hb]; rfl)
theorem Cur.drewN (h : Cur w g A c bs t) (n : Nat) : Cur (w.drewN n) g A c bs t := ⟨h.blk, h.rb, h.small⟩
theorem Cur.grownBy {row : Option Nat} (h : Cur w g A c bs t) (hg : w.grownBy w' row) (hrow : ∀ k, row = some k → g < k) : Cur w' g A c bs t := by
  obtain ⟨seed, hs, hb⟩ := h.blk
  refine ⟨⟨seed, hs, (hg.block g h.lt (fun e => by have := hrow g e.symm; omega)).trans hb⟩, ?_, h.small⟩
  intro hp
  obtain ⟨b, o, e, hlt, hc⟩ := h.rb hp
  exact ⟨b, o, e, hlt, fun j u hu => hg.cell (hc j u hu) (fun e => by have := hrow b e.symm; omega)⟩
theorem Cur.below (h : Cur w g A c bs t) (hb : Below w.heap.size w w') : Cur w' g A c bs t :=
  h.grownBy (row := none) ⟨hb.os, hb.tape, hb.output, hb.size, fun k hk _ => hb.block k hk⟩ (by simp)
end

theorem grownBy_set (w : World) (g i : Nat) (v : Value) : w.grownBy (w.setCell ⟨g, i, none⟩ v) (some g) :=
  ⟨rfl, rfl, rfl, by simp, fun k _ hk => heap_setCell_other w ⟨g, i, none⟩ k v (fun e => hk (by simp [e]))⟩
theorem step_grown (w : World) (g i n : Nat) (v : Value) : w.grownBy ((w.drewN n).setCell ⟨g, i, none⟩ v) (some g) :=
  ⟨rfl, rfl, rfl, by simp, fun k _ hk => heap_setCell_other (w.drewN n) ⟨g, i, none⟩ k v (fun e => hk (by simp [e]))⟩

end Go.Proofs.Ythogonpjkngpjaa

namespace Go.Proofs.Ythogonpjkngpjaa
set_option maxRecDepth 100000
open Go.RowKit

theorem only_new {a w : World} {row : Option Nat} (h : a.grownBy w row) (o : Obj) : a.grownBy (w.alloc o) row :=
  ⟨h.os, h.tape, h.output, Nat.le_trans h.size (by simp), fun i hi hne => (Below.heap_alloc w o i (Nat.lt_of_lt_of_le hi h.size)).trans (h.block i hi hne)⟩

/-- A row that was not there when a began may turn besides. -/
theorem grown_other {a b c : World} {row row' : Option Nat} (h : a.grownBy b row) (k : b.grownBy c row') (hr : ∀ u, row' = some u → a.heap.size ≤ u) : a.grownBy c row :=
  ⟨k.os.trans h.os, k.tape.trans h.tape, k.output.trans h.output, Nat.le_trans h.size k.size, fun i hi hne => (k.block i (Nat.lt_of_lt_of_le hi h.size) (fun e => by have := hr i e.symm; omega)).trans (h.block i hi hne)⟩

end Go.Proofs.Ythogonpjkngpjaa

namespace Go.Proofs.Ythogonpjkngpjaa.K
open Go.RowKit

section
variable {w w' : World} {g b : Nat} {cs : Array Value} {t : TypeId} {o : Obj}
theorem lt (h : w.heap[g]? = some o) : g < w.heap.size := (Array.getElem?_eq_some_iff.1 h).1
theorem cell (h : w.heap[g]? = some (.cells cs t (0, 0))) (j : Nat) (v : Value) (hv : cs[j]? = some v) : w.cell? ⟨g, j, none⟩ = some v := by rw [cell_of_row w g j _ _ _ h, hv]
theorem on {B : Nat} (h : Below B w w') (hg : g < B) (hr : w.heap[g]? = some o) : w'.heap[g]? = some o := (h.block g hg).trans hr
theorem below (h : Below w.heap.size w w') (hr : w.heap[g]? = some o) : w'.heap[g]? = some o := (h.block g (lt hr)).trans hr
theorem kept {row : Option Nat} (h : w.grownBy w' row) (hr : w.heap[g]? = some o) (hne : ∀ k, row = some k → g ≠ k) : w'.heap[g]? = some o := (h.block g (lt hr) (fun e => hne g e.symm rfl)).trans hr
theorem new (w : World) (o : Obj) : (w.alloc o).heap[w.heap.size]? = some o := heap_alloc_new w o
theorem old (h : w.heap[g]? = some o) (x : Obj) : (w.alloc x).heap[g]? = some o := (Below.heap_alloc w x g (lt h)).trans h
theorem set (h : w.heap[g]? = some (.cells cs t (0, 0))) (j : Nat) (v : Value) : (w.setCell ⟨g, j, none⟩ v).heap[g]? = some (.cells (cs.setIfInBounds j v) t (0, 0)) := heap_setCell_same w g j cs t v h
theorem other (h : w.heap[g]? = some o) (b j : Nat) (v : Value) (hne : g ≠ b) : (w.setCell ⟨b, j, none⟩ v).heap[g]? = some o := (heap_setCell_other w ⟨b, j, none⟩ g v hne).trans h
theorem refl (w : World) (row : Option Nat) : w.grownBy w row := ⟨rfl, rfl, rfl, Nat.le_refl _, fun _ _ _ => rfl⟩
theorem undrew (h : Below w.drew.heap.size w.drew w') : Below w.heap.size w w' := ⟨h.os, h.tape, h.output, h.size, h.block⟩
/-- The cells of a block of five that may be written. -/
theorem row5 {v0 v1 v2 v3 v4 : Value} (h : w.heap[g]? = some (.cells #[v0, v1, v2, v3, v4] t (0, 0))) :
    (w.cell? ⟨g, 0, none⟩ = some v0 ∧ w.cell? ⟨g, 1, none⟩ = some v1 ∧ w.cell? ⟨g, 2, none⟩ = some v2 ∧ w.cell? ⟨g, 3, none⟩ = some v3 ∧ w.cell? ⟨g, 4, none⟩ = some v4) ∧
      (w.frozen? ⟨g, 0, none⟩ = false ∧ w.frozen? ⟨g, 1, none⟩ = false ∧ w.frozen? ⟨g, 2, none⟩ = false ∧ w.frozen? ⟨g, 3, none⟩ = false ∧ w.frozen? ⟨g, 4, none⟩ = false) :=
  ⟨⟨cell_of_row w g 0 _ _ _ h, cell_of_row w g 1 _ _ _ h, cell_of_row w g 2 _ _ _ h, cell_of_row w g 3 _ _ _ h, cell_of_row w g 4 _ _ _ h⟩,
    ⟨frozen_of_row w g 0 _ _ h, frozen_of_row w g 1 _ _ h, frozen_of_row w g 2 _ _ h, frozen_of_row w g 3 _ _ h, frozen_of_row w g 4 _ _ h⟩⟩
/-- Two cells. -/
theorem row2 {v0 v1 : Value} (h : w.heap[g]? = some (.cells #[v0, v1] t (0, 0))) :
    (w.cell? ⟨g, 0, none⟩ = some v0 ∧ w.cell? ⟨g, 1, none⟩ = some v1) ∧ (w.frozen? ⟨g, 0, none⟩ = false ∧ w.frozen? ⟨g, 1, none⟩ = false) :=
  ⟨⟨cell_of_row w g 0 _ _ _ h, cell_of_row w g 1 _ _ _ h⟩, ⟨frozen_of_row w g 0 _ _ h, frozen_of_row w g 1 _ _ h⟩⟩
end

theorem resCellTmp {fn : Func} {p u : Tmp} {ty : TypeId} (h : fn.results = #[.cell p ty, .tmp u]) (tmps : Array Value) (P : Program) (w : World) (g : Nat) (cs : Array Value)
    (hp : tmps.getD p undef = .pointer (some ⟨g, 0, none⟩)) (hld : (loadVar ty ⟨g, 0, none⟩).run P w = .ok (.agg cs) w) :
    (results fn tmps).run P w = .ok (.tuple #[.agg cs, tmps.getD u undef]) w := by
  rw [results_cell_tmp h, hp]
  simp [asAddr, Result.andThen, hld]
end Go.Proofs.Ythogonpjkngpjaa.K

namespace Go.Proofs.Ythogonpjkngpjaa
set_option maxRecDepth 100000
open Go.RowKit

/-- The cursor lies in block g: the code (it reads as bs and lies below g), the place t, the seed s. -/
structure CurS (w : World) (g : Nat) (A : Option Addr) (c : Nat) (bs : List UInt8) (t s : Nat) : Prop where
  seed : s < 65521
  blk : w.heap[g]? = some (.cells #[.slice A bs.length c, .int .i64 (t : Int), .int .i64 (s : Int)] 116 (0, 0))
  rb : RB w g A bs
  small : bs.length ≤ 1048576

section
variable {w w' : World} {g : Nat} {A : Option Addr} {c : Nat} {bs : List UInt8} {t s : Nat}
theorem CurS.lt (h : CurS w g A c bs t s) : g < w.heap.size := (Array.getElem?_eq_some_iff.1 h.blk).1
theorem CurS.cells (h : CurS w g A c bs t s) : w.cell? ⟨g, 0, none⟩ = some (.slice A bs.length c) ∧ w.cell? ⟨g, 1, none⟩ = some (.int .i64 (t : Int)) ∧ w.cell? ⟨g, 2, none⟩ = some (.int .i64 (s : Int)) ∧ (∀ i, w.frozen? ⟨g, i, none⟩ = false) := by
  refine ⟨?_, ?_, ?_, fun i => frozen_of_row w g i _ _ h.blk⟩ <;> (rw [cell_of_row w g _ _ _ (0, 0) h.blk]; rfl)
theorem CurS.drewN (h : CurS w g A c bs t s) (n : Nat) : CurS (w.drewN n) g A c bs t s := ⟨h.seed, h.blk, h.rb, h.small⟩
theorem CurS.grownBy {row : Option Nat} (h : CurS w g A c bs t s) (hg : w.grownBy w' row) (hrow : ∀ k, row = some k → g < k) : CurS w' g A c bs t s := by
  refine ⟨h.seed, (hg.block g h.lt (fun e => by have := hrow g e.symm; omega)).trans h.blk, ?_, h.small⟩
  intro hp
  obtain ⟨b, o, e, hlt, hc⟩ := h.rb hp
  exact ⟨b, o, e, hlt, fun j u hu => hg.cell (hc j u hu) (fun e => by have := hrow b e.symm; omega)⟩
theorem CurS.below (h : CurS w g A c bs t s) (hb : Below w.heap.size w w') : CurS w' g A c bs t s :=
  h.grownBy (row := none) ⟨hb.os, hb.tape, hb.output, hb.size, fun k hk _ => hb.block k hk⟩ (by simp)
theorem CurS.setAt (h : CurS w g A c bs t s) (t' : Nat) : CurS (w.setCell ⟨g, 1, none⟩ (.int .i64 (t' : Int))) g A c bs t' s := by
  refine ⟨h.seed, ?_, h.rb.grownBy (grownBy_set w g 1 _) (Nat.le_refl _), h.small⟩
  rw [heap_setCell_same w g 1 _ _ _ h.blk]
  rfl
theorem CurS.next (h : CurS w g A c bs t s) : CurS (w.setCell ⟨g, 1, none⟩ (.int .i64 ((t : Int) + 1))) g A c bs (t + 1) s := h.setAt (t + 1)
end

end Go.Proofs.Ythogonpjkngpjaa

namespace Go.Proofs.Ythogonpjkngpjaa.K
open Go.RowKit

section
variable {w W : World} {g : Nat}
end

end Go.Proofs.Ythogonpjkngpjaa.K

namespace Go.Proofs.Ythogonpjkngpjaa.K
open Go.RowKit

section
variable {w : World} {g : Nat} {t : TypeId}
theorem newAt {w : World} {o : Obj} {g : Nat} (h : g = w.heap.size) : (w.alloc o).heap[g]? = some o := h ▸ new w o
theorem oldAt {w : World} {o x : Obj} {g : Nat} (h : g < w.heap.size) (k : w.heap[g]? = some o) : (w.alloc x).heap[g]? = some o := (Below.heap_alloc w x g h).trans k
end
end Go.Proofs.Ythogonpjkngpjaa.K

namespace Go.Proofs.Ythogonpjkngpjaa.K
open Go.RowKit

section
variable {w : World} {g : Nat} {t : TypeId}
theorem cells14 {v0 v1 v2 v3 v4 v5 v6 v7 v8 v9 v10 v11 v12 v13 : Value} (h : w.heap[g]? = some (.cells #[v0, v1, v2, v3, v4, v5, v6, v7, v8, v9, v10, v11, v12, v13] t (0, 0))) : w.cell? ⟨g, 0, none⟩ = some v0 ∧ w.cell? ⟨g, 1, none⟩ = some v1 ∧ w.cell? ⟨g, 2, none⟩ = some v2 ∧ w.cell? ⟨g, 3, none⟩ = some v3 ∧ w.cell? ⟨g, 4, none⟩ = some v4 ∧ w.cell? ⟨g, 5, none⟩ = some v5 ∧ w.cell? ⟨g, 6, none⟩ = some v6 ∧ w.cell? ⟨g, 7, none⟩ = some v7 ∧ w.cell? ⟨g, 8, none⟩ = some v8 ∧ w.cell? ⟨g, 9, none⟩ = some v9 ∧ w.cell? ⟨g, 10, none⟩ = some v10 ∧ w.cell? ⟨g, 11, none⟩ = some v11 ∧ w.cell? ⟨g, 12, none⟩ = some v12 ∧ w.cell? ⟨g, 13, none⟩ = some v13 :=
  ⟨cell_of_row w g 0 _ _ _ h, cell_of_row w g 1 _ _ _ h, cell_of_row w g 2 _ _ _ h, cell_of_row w g 3 _ _ _ h, cell_of_row w g 4 _ _ _ h, cell_of_row w g 5 _ _ _ h, cell_of_row w g 6 _ _ _ h, cell_of_row w g 7 _ _ _ h, cell_of_row w g 8 _ _ _ h, cell_of_row w g 9 _ _ _ h, cell_of_row w g 10 _ _ _ h, cell_of_row w g 11 _ _ _ h, cell_of_row w g 12 _ _ _ h, cell_of_row w g 13 _ _ _ h⟩
end
end Go.Proofs.Ythogonpjkngpjaa.K

namespace Go.Proofs.Ythogonpjkngpjaa
set_option maxRecDepth 100000
open Go.RowKit

/-- The cells of a block that was made and not written since. -/
theorem box_cell {w w' : World} {cs : Array Value} {t : TypeId} (b : Below (w.alloc (.cells cs t)).heap.size (w.alloc (.cells cs t)) w') (j : Nat) (v : Value) (h : cs[j]? = some v) : w'.cell? ⟨w.heap.size, j, none⟩ = some v := by
  rw [b.cell (p := ⟨w.heap.size, j, none⟩) (by simp)]
  simp [go_sem, h]

theorem ad_box {w w' : World} {x : Ad} {t : TypeId} (b : Below (w.alloc (.cells #[.int .i64 x.k, .int .i64 x.a, .int .i64 x.b, .int .i64 x.c, .int .i64 x.d] t)).heap.size (w.alloc (.cells #[.int .i64 x.k, .int .i64 x.a, .int .i64 x.b, .int .i64 x.c, .int .i64 x.d] t)) w') :
    w'.cell? ⟨w.heap.size, 0, none⟩ = some (.int .i64 x.k) ∧ w'.cell? ⟨w.heap.size, 1, none⟩ = some (.int .i64 x.a) ∧ w'.cell? ⟨w.heap.size, 2, none⟩ = some (.int .i64 x.b) ∧ w'.cell? ⟨w.heap.size, 3, none⟩ = some (.int .i64 x.c) ∧ w'.cell? ⟨w.heap.size, 4, none⟩ = some (.int .i64 x.d) :=
  ⟨box_cell b 0 _ rfl, box_cell b 1 _ rfl, box_cell b 2 _ rfl, box_cell b 3 _ rfl, box_cell b 4 _ rfl⟩

set_option maxHeartbeats 400000 in
theorem toAddrC (x : Ad) (w : World) :
    Calls Try.prog 17 #[.agg #[.int .i64 x.k, .int .i64 x.a, .int .i64 x.b, .int .i64 x.c, .int .i64 x.d]] w fun e w' => e = .returned (.agg #[.int .i64 x.k, .int .i64 x.a, .int .i64 x.b, .int .i64 x.c, .int .i64 x.d]) ∧ Below w.heap.size w w' := by
  go_enter Try.func17, Try.ntmps17
  go_wp2
  go_returns
  exact ⟨rfl, by go_grown⟩



set_option maxHeartbeats 400000 in
theorem specHalf (n : Int) (w : World) : Calls Try.prog 97 #[.int .i64 n] w fun e w' => e = .returned (.bool (half n)) ∧ w = w' := by
  go_enter Try.func97, Try.ntmps97
  go_wp2
  · go_ret
    exact ⟨ret_bool (by simp [half]; omega), rfl⟩
  · go_ret
    exact ⟨ret_bool (by simp [half]; omega), rfl⟩

set_option maxHeartbeats 400000 in
theorem partOkC (n : Int) (w : World) : Calls Try.prog 120 #[.int .i64 n] w fun e w' => e = .returned (.bool (half n)) ∧ w = w' := by
  by_cases h : 0 ≤ n ∧ n ≤ 4294967295
  · have hh := Lib.hid ((half_iff n).2 h)
    obtain ⟨h1, h2⟩ := h
    go_enter Try.func120, Try.ntmps120
    go_wp2_with (go_at_call 42; refine (within_yes _ _ _ _ h1 h2).mono ?_; rintro e w' ⟨rfl, rfl⟩)
    go_ret
    exact ⟨ret_bool hh.out.symm, rfl⟩
  · have hh := Lib.hid (show half n = false by simp [half]; omega)
    have h3 := Lib.hid (show n < 0 ∨ 4294967295 < n by omega)
    clear h
    go_enter Try.func120, Try.ntmps120
    go_wp2_with (go_at_call 42; refine (within_no _ _ _ _ h3.out).mono ?_; rintro e w' ⟨rfl, rfl⟩)
    go_ret
    exact ⟨ret_bool hh.out.symm, rfl⟩

set_option maxHeartbeats 400000 in
theorem bitsOfC (k : Int) (h : k = 4 ∨ k = 6) (w : World) : Calls Try.prog 114 #[.int .i64 k] w fun e w' => e = .returned (.int .i64 (if k = 4 then 32 else 128)) ∧ w = w' := by
  rcases h with rfl | rfl
  · go_enter Try.func114, Try.ntmps114
    go_wp2
    go_ret
    exact ⟨rfl, rfl⟩
  · go_enter Try.func114, Try.ntmps114
    go_wp2
    go_ret
    exact ⟨rfl, rfl⟩



set_option maxHeartbeats 1000000 in
theorem specAddrOk (x : Ad) (w : World) : Calls Try.prog 80 #[.agg #[.int .i64 x.k, .int .i64 x.a, .int .i64 x.b, .int .i64 x.c, .int .i64 x.d]] w fun e w' => e = .returned (.bool x.ok) ∧ Below w.heap.size w w' := by
  by_cases h : x.k = 4
  · go_enter Try.func80, Try.ntmps80
    go_wp2_with (go_at_call 97; refine (specHalf _ _).mono ?_; rintro e w' ⟨rfl, rfl⟩)
    all_goals (go_ret; exact ⟨ret_bool (by simp [Ad.ok, *]), by go_grown⟩)
  · go_enter Try.func80, Try.ntmps80
    go_wp2_with (go_at_call 97; refine (specHalf _ _).mono ?_; rintro e w' ⟨rfl, rfl⟩)
    all_goals (go_ret; exact ⟨ret_bool (by simp [Ad.ok, *]), by go_grown⟩)

set_option maxHeartbeats 1000000 in
theorem implAddrOk (x : Ad) (w : World) : Calls Try.prog 85 #[.agg #[.int .i64 x.k, .int .i64 x.a, .int .i64 x.b, .int .i64 x.c, .int .i64 x.d]] w fun e w' => e = .returned (.bool x.ok) ∧ Below w.heap.size w w' := by
  by_cases h : x.k = 4
  · go_enter Try.func85, Try.ntmps85
    go_wp2_with (go_at_call 120; refine (partOkC _ _).mono ?_; rintro e w' ⟨rfl, rfl⟩)
    all_goals (go_ret; exact ⟨ret_bool (by simp [Ad.ok, *]), by go_grown⟩)
  · go_enter Try.func85, Try.ntmps85
    go_wp2_with (go_at_call 120; refine (partOkC _ _).mono ?_; rintro e w' ⟨rfl, rfl⟩)
    all_goals (go_ret; exact ⟨ret_bool (by simp [Ad.ok, *]), by go_grown⟩)
end Go.Proofs.Ythogonpjkngpjaa

namespace Go.Proofs.Ythogonpjkngpjaa
set_option maxRecDepth 100000
open Go.RowKit

















theorem K.setRow_own {w : World} {base : Nat} {e : TypeId} {size n : Nat} {v : Value} {xs : List Value} {g : Nat} (cs : Array Value) (h : w.ownsRow base e size v n xs) (hg : g < base) : (w.setRow g cs).ownsRow base e size v n xs :=
  own_grown (row := some g) h ⟨rfl, rfl, rfl, by simp, fun k _ hk => setRow_other w g k cs (fun e => hk (by rw [e]))⟩ (fun k hk => by have := (h.lt k hk).1; simp; omega)

theorem K.setRow_grown (w : World) (g : Nat) (cs : Array Value) : w.grownBy (w.setRow g cs) (some g) := ⟨rfl, rfl, rfl, by simp, fun k _ hk => setRow_other w g k cs (fun e => hk (by rw [e]))⟩

theorem K.setRow_below {w0 w : World} {g : Nat} (hb : Below w0.heap.size w0 w) (hg : w0.heap.size ≤ g) (cs : Array Value) : Below w0.heap.size w0 (w.setRow g cs) :=
  bgrown hb (K.setRow_grown w g cs) (fun k hk => by cases hk; exact hg)











theorem toFn (A : Option Addr) (n c : Nat) (bs : List UInt8) (w : World) (hr : RB w w.heap.size A bs) (hl : bs.length = n) (hn : n ≤ 1048576) :
    Calls Try.prog 16 #[.slice A n c] w fun e w' => ∃ D d, e = .returned (.slice D n d) ∧ w'.ownsRow w.heap.size 5 1 (.slice D n d) n (cellsOf bs) ∧ Below w.heap.size w w' := by
  subst hl
  exact (toB A c bs w hr hn).mono fun e w' ⟨he, ho, hb⟩ => ⟨_, _, he, ho, hb⟩

end Go.Proofs.Ythogonpjkngpjaa

namespace Go.Proofs.Ythogonpjkngpjaa
set_option maxRecDepth 100000
open Go.RowKit

theorem own_set {w : World} {base : Nat} {e : TypeId} {size n : Nat} {v : Value} {xs : List Value} (h : w.ownsRow base e size v n xs) (g j : Nat) (u : Value) (hg : g < base) : (w.setCell ⟨g, j, none⟩ u).ownsRow base e size v n xs :=
  own_grown h (grownBy_set w g j u) (fun k hk => by have := (h.lt k hk).1; simp; omega)

end Go.Proofs.Ythogonpjkngpjaa

namespace Go.Proofs.Ythogonpjkngpjaa
set_option maxRecDepth 100000
open Go.RowKit





end Go.Proofs.Ythogonpjkngpjaa

namespace Go.Proofs.Ythogonpjkngpjaa
set_option maxRecDepth 100000
open Go.RowKit

section
variable {P : Program} {ops : Array Oper} {Q : Exit → Act → World → Prop}

/-- The operations on which operation j waits, with their slots. -/
def needOf (ops : Array Oper) (j : Nat) : List (Nat × Nat) :=
  match ops[j]? with
  | none => []
  | some o => o.after.toList.filterMap fun e => if Region.binds .any e then ((ops[e.on]?).bind (·.dst)).map fun d => (e.on, d) else none
theorem needOf_spec {j : Nat} {o : Oper} (ho : ops[j]? = some o) {p : Nat × Nat} (hp : p ∈ needOf ops j) :
    (∃ e ∈ o.after, e.on = p.1 ∧ Region.binds .any e = true) ∧ ∃ oj, ops[p.1]? = some oj ∧ oj.dst = some p.2 := by
  unfold needOf at hp
  rw [ho] at hp
  obtain ⟨e, he, hq⟩ := List.mem_filterMap.1 hp
  split at hq
  · rename_i hb
    rw [Option.map_eq_some_iff] at hq
    obtain ⟨d, hd, rfl⟩ := hq
    rw [Option.bind_eq_some_iff] at hd
    obtain ⟨oj, h1, h2⟩ := hd
    exact ⟨⟨e, by simpa using he, rfl, hb⟩, oj, h1, h2⟩
  · cases hq

/-- What is asked of the region's form: each operation waits for earlier ones alone, none is guarded, its slots are its own and none of those that stand outside. -/
def formB (ops : Array Oper) (n : Nat) (out : List Nat) : Bool :=
  (List.range ops.size).all fun j => match ops[j]? with
    | none => true
    | some o => o.after.all (fun e => !Region.binds .any e || decide (e.on < j)) && o.guard.isNone && (match o.dst with
      | none => true
      | some d => decide (d < n) && !out.contains d && (List.range ops.size).all fun i => decide (i = j) || decide ((ops[i]?).bind (·.dst) ≠ some d))
theorem formB_at {n : Nat} {out : List Nat} (h : formB ops n out = true) {j : Nat} {o : Oper} (ho : ops[j]? = some o) :
    (∀ e ∈ o.after, Region.binds .any e = true → e.on < j) ∧ o.guard = none ∧ ∀ d, o.dst = some d → d < n ∧ d ∉ out ∧ ∀ i oi, ops[i]? = some oi → oi.dst = some d → i = j := by
  have hj : j < ops.size := (Array.getElem?_eq_some_iff.1 ho).1
  have h1 := List.all_eq_true.1 h j (List.mem_range.2 hj)
  rw [ho] at h1
  simp only [Bool.and_eq_true] at h1
  refine ⟨fun e he hb => ?_, ?_, fun d hd => ?_⟩
  · have := Array.all_eq_true_iff_forall_mem.1 h1.1.1 e he
    simpa [hb] using this
  · simpa using h1.1.2
  · have h2 := h1.2
    rw [hd] at h2
    simp only [Bool.and_eq_true, decide_eq_true_eq, Bool.not_eq_true', List.contains_eq_mem, decide_eq_false_iff_not] at h2
    refine ⟨h2.1.1, h2.1.2, fun i oi hi hdi => ?_⟩
    have hil : i < ops.size := (Array.getElem?_eq_some_iff.1 hi).1
    have h3 := List.all_eq_true.1 h2.2 i (List.mem_range.2 hil)
    rw [hi] at h3
    simp only [Option.bind_some, hdi, ne_eq, not_true, decide_false, Bool.or_false, decide_eq_true_eq] at h3
    exact h3

theorem put_other (a : Act) {dst : Option Tmp} {t : Nat} (v : Value) (h : dst ≠ some t) : (a.put dst v).tmps.getD t undef = a.tmps.getD t undef := by
  cases dst with
  | none => rfl
  | some d =>
    have hne : d ≠ t := fun e => h (by rw [e])
    simp [Act.put, Array.getElem?_setIfInBounds_ne hne]
theorem put_own (a : Act) {d n : Nat} (v : Value) (h : d < n) (hn : a.tmps.size = n) : (a.put (some d) v).tmps.getD d undef = v := by
  subst hn
  simp [Act.put, h]
theorem put_size (a : Act) (dst : Option Tmp) (v : Value) : (a.put dst v).tmps.size = a.tmps.size := by
  cases dst with
  | none => rfl
  | some d => simp [Act.put]
theorem put_defers' (a : Act) (dst : Option Tmp) (v : Value) : (a.put dst v).defers = a.defers := by
  cases dst <;> rfl

/-- How many have come up. -/
def up (listed : Array Bool) : Nat := listed.toList.count true
theorem up_set {listed : Array Bool} {i : Nat} (h : listed.getD i true = false) : up (listed.setIfInBounds i true) = up listed + 1 ∧ i < listed.size := by
  have hi : i < listed.size := by
    by_cases hi : i < listed.size
    · exact hi
    · simp [hi] at h
  refine ⟨?_, hi⟩
  have hg : listed[i] = false := by simpa [hi] using h
  have hl : i < listed.toList.length := hi
  unfold up
  rw [Array.toList_setIfInBounds, List.count_set hl]
  have hg2 : listed.toList[i] = false := hg
  rw [hg2]
  simp
theorem up_all {listed : Array Bool} (h : up listed = listed.size) {i : Nat} (hi : i < listed.size) : listed.getD i false = true := by
  have h2 : listed.toList.count true = listed.toList.length := by simpa [up] using h
  have h3 := List.count_eq_length.1 h2 listed[i] (by simp)
  have : listed[i] = true := h3.symm
  simp [hi, this]
theorem up_le (listed : Array Bool) : up listed ≤ listed.size := by
  have := List.count_le_length (a := true) (l := listed.toList)
  simpa [up] using this

/-- What stands while the region runs. -/
structure Kept (ops : Array Oper) (Γ : Nat → World → Value → Prop) (out : List Nat) (I : Nat → World → Prop) (n : Nat) (a0 : Act) (listed : Array Bool) (a : Act) (w : World) : Prop where
  size : listed.size = ops.size
  len : a.tmps.size = n
  defers : a.defers = a0.defers
  keep : ∀ t, (∀ (j : Nat) o, ops[j]? = some o → o.dst ≠ some t) → a.tmps.getD t undef = a0.tmps.getD t undef
  inv : I (up listed) w
  slots : ∀ (j : Nat) o d, ops[j]? = some o → o.dst = some d → listed.getD j false = true → Γ j w (a.tmps.getD d undef)

theorem some_ready {n : Nat} {out : List Nat} (hf : formB ops n out = true) {listed : Array Bool} (hs : listed.size = ops.size) (hr : Region.ready .any ops listed = []) : up listed = ops.size := by
  have hall : ∀ j, j < ops.size → listed.getD j false = true := by
    intro j
    induction j using Nat.strongRecOn with
    | ind j ih =>
      intro hj
      obtain ⟨o, ho⟩ : ∃ o, ops[j]? = some o := ⟨_, Array.getElem?_eq_getElem hj⟩
      cases hg : listed.getD j false
      · have hm : j ∈ Region.ready .any ops listed := by
          refine mem_ready.2 ⟨?_, o, ho, fun e he hb => ?_⟩
          · have hj2 : j < listed.size := by omega
            simpa [hj2] using hg
          · have := (formB_at hf ho).1 e he hb
            exact ih e.on this (by omega)
        rw [hr] at hm
        cases hm
      · rfl
  have h1 : listed.toList.count true = listed.toList.length := List.count_eq_length.2 fun b hb => by
    obtain ⟨i, hi, rfl⟩ := List.getElem_of_mem hb
    have hi2 : i < listed.size := by simpa using hi
    have := hall i (by omega)
    simpa [hi2] using this.symm
  simpa [up, hs] using h1

end
end Go.Proofs.Ythogonpjkngpjaa
