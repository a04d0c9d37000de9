/-
  The model's cursor over a code of bytes: it hands out numbers. All that the laws need of it: the number is in its range, the cursor stays one, nothing else has turned.
-/
import Derived.Test.YtmfkpiclpkeemaaBytes
namespace Go.Proofs.Ytmfkpiclpkeemaa
set_option maxRecDepth 100000
open Go.RowKit

/-- The cursor lies in block g: the code (it reads as bs and lies below g), how many numbers have been handed out, the seed. -/
structure Cur (w : World) (g : Nat) (A : Option Addr) (c : Nat) (bs : List UInt8) (t : Nat) : Prop where
  blk : ∃ seed : Nat, seed < 65521 ∧ w.heap[g]? = some (.cells #[.slice A bs.length c, .int .i64 (t : Int), .int .i64 (seed : Int)] 136 (0, 0))
  rb : RB w g A bs
  small : bs.length ≤ 1048576

section
variable {w w' : World} {g : Nat} {A : Option Addr} {c : Nat} {bs : List UInt8} {t : Nat}
theorem Cur.lt (h : Cur w g A c bs t) : g < w.heap.size := by
  obtain ⟨seed, _, hb⟩ := h.blk
  exact (Array.getElem?_eq_some_iff.1 hb).1
theorem RB.grownBy {B : Nat} {row : Nat} (h : RB w B A bs) (hg : w.grownBy w' (some row)) (hB : B ≤ row) : RB w' B A bs := by
  intro hp
  obtain ⟨b, o, e, hb, hc⟩ := h hp
  refine ⟨b, o, e, hb, fun j u hu => ?_⟩
  exact hg.cell (hc j u hu) (by simp; omega)
theorem Cur.setAt (h : Cur w g A c bs t) (t' : Nat) : Cur (w.setCell ⟨g, 1, none⟩ (.int .i64 (t' : Int))) g A c bs t' ∧ w.grownBy (w.setCell ⟨g, 1, none⟩ (.int .i64 (t' : Int))) (some g) := by
  have hg : w.grownBy (w.setCell ⟨g, 1, none⟩ (.int .i64 (t' : Int))) (some g) := ⟨rfl, rfl, rfl, by simp, fun k _ hk => heap_setCell_other w ⟨g, 1, none⟩ k _ (fun e => hk (by simp [e]))⟩
  obtain ⟨seed, hs, hb⟩ := h.blk
  refine ⟨⟨⟨seed, hs, ?_⟩, h.rb.grownBy hg (Nat.le_refl _), h.small⟩, hg⟩
  rw [heap_setCell_same w g 1 _ _ _ hb]
  rfl
theorem Cur.setSeed (h : Cur w g A c bs t) (s' : Nat) (hs' : s' < 65521) : Cur (w.setCell ⟨g, 2, none⟩ (.int .i64 (s' : Int))) g A c bs t ∧ w.grownBy (w.setCell ⟨g, 2, none⟩ (.int .i64 (s' : Int))) (some g) := by
  have hg : w.grownBy (w.setCell ⟨g, 2, none⟩ (.int .i64 (s' : Int))) (some g) := ⟨rfl, rfl, rfl, by simp, fun k _ hk => heap_setCell_other w ⟨g, 2, none⟩ k _ (fun e => hk (by simp [e]))⟩
  obtain ⟨seed, hs, hb⟩ := h.blk
  refine ⟨⟨⟨s', hs', ?_⟩, h.rb.grownBy hg (Nat.le_refl _), h.small⟩, hg⟩
  rw [heap_setCell_same w g 2 _ _ _ hb]
  rfl
theorem Cur.cells (h : Cur w g A c bs t) : ∃ seed : Nat, seed < 65521 ∧ w.cell? ⟨g, 0, none⟩ = some (.slice A bs.length c) ∧ w.cell? ⟨g, 1, none⟩ = some (.int .i64 (t : Int)) ∧ w.cell? ⟨g, 2, none⟩ = some (.int .i64 (seed : Int)) ∧
    (∀ i, w.frozen? ⟨g, i, none⟩ = false) := by
  obtain ⟨seed, hs, hb⟩ := h.blk
  refine ⟨seed, hs, ?_, ?_, ?_, fun i => frozen_of_row w g i _ _ hb⟩ <;> (rw [cell_of_row w g _ _ _ (0, 0) hb]; rfl)
theorem Cur.drewN (h : Cur w g A c bs t) (n : Nat) : Cur (w.drewN n) g A c bs t := ⟨h.blk, h.rb, h.small⟩
theorem Cur.grownBy {row : Option Nat} (h : Cur w g A c bs t) (hg : w.grownBy w' row) (hrow : ∀ k, row = some k → g < k) : Cur w' g A c bs t := by
  obtain ⟨seed, hs, hb⟩ := h.blk
  refine ⟨⟨seed, hs, (hg.block g h.lt (fun e => by have := hrow g e.symm; omega)).trans hb⟩, ?_, h.small⟩
  intro hp
  obtain ⟨b, o, e, hlt, hc⟩ := h.rb hp
  exact ⟨b, o, e, hlt, fun j u hu => hg.cell (hc j u hu) (fun e => by have := hrow b e.symm; omega)⟩
theorem Cur.below (h : Cur w g A c bs t) (hb : Below w.heap.size w w') : Cur w' g A c bs t :=
  h.grownBy (row := none) ⟨hb.os, hb.tape, hb.output, hb.size, fun k hk _ => hb.block k hk⟩ (by simp)
end

/-- What a call that draws numbers leaves: the number in its range; the cursor, moved on; only its block has turned, and no block is new. -/
def Drawn (w : World) (g : Nat) (A : Option Addr) (c : Nat) (bs : List UInt8) (t : Nat) (lo hi : Int) (e : Ending) (w' : World) : Prop :=
  ∃ x : Int, e = .returned (.int .i64 x) ∧ lo ≤ x ∧ x ≤ hi ∧ Cur w' g A c bs t ∧ w.grownBy w' (some g)

theorem drawn_of {w w' : World} {g : Nat} {A : Option Addr} {c : Nat} {bs : List UInt8} {t : Nat} {lo hi x : Int} (h1 : lo ≤ x) (h2 : x ≤ hi) (hc : Cur w' g A c bs t) (hg : w.grownBy w' (some g)) :
    Drawn w g A c bs t lo hi (.returned (.int .i64 x)) w' := ⟨x, rfl, h1, h2, hc, hg⟩

theorem draw_range (x m : Int) (h0 : 0 ≤ x) (h1 : x ≤ 1099511627776) (hm : 2 ≤ m) : 0 ≤ (wrap64 x).tmod m ∧ (wrap64 x).tmod m ≤ m - 1 := by
  rw [IntWalk.wrap64_in x (by omega), Int.tmod_eq_emod_of_nonneg h0]
  have := Int.emod_nonneg x (show m ≠ 0 by omega)
  have := Int.emod_lt_of_pos x (show 0 < m by omega)
  omega
theorem grownBy_set (w : World) (g i : Nat) (v : Value) : w.grownBy (w.setCell ⟨g, i, none⟩ v) (some g) :=
  ⟨rfl, rfl, rfl, by simp, fun k _ hk => heap_setCell_other w ⟨g, i, none⟩ k v (fun e => hk (by simp [e]))⟩
theorem step_at {w : World} {g : Nat} {A : Option Addr} {c : Nat} {bs : List UInt8} {t : Nat} (h : Cur w g A c bs t) : Cur (w.setCell ⟨g, 1, none⟩ (.int .i64 ((t : Int) + 1))) g A c bs (t + 1) := (h.setAt (t + 1)).1
theorem step_grown (w : World) (g i n : Nat) (v : Value) : w.grownBy ((w.drewN n).setCell ⟨g, i, none⟩ v) (some g) :=
  ⟨rfl, rfl, rfl, by simp, fun k _ hk => heap_setCell_other (w.drewN n) ⟨g, i, none⟩ k v (fun e => hk (by simp [e]))⟩

set_option maxRecDepth 100000 in
set_option maxHeartbeats 1000000 in
theorem pickC (w : World) (g : Nat) (A : Option Addr) (c : Nat) (bs : List UInt8) (t : Nat) (m : Int) (hm : 2 ≤ m) (hmb : m ≤ 1099511627776) (hc : Cur w g A c bs t) (ht : t ≤ 1099511627776) :
    Calls Try.prog 89 #[.pointer (some ⟨g, 0, none⟩), .int .i64 m] w (Drawn w g A c bs (t + 1) 0 (m - 1)) := by
  obtain ⟨seed, hs, c0, c1, c2, cf⟩ := hc.cells
  have f1 := cf 1
  have f2 := cf 2
  have hsm := hc.small
  clear cf
  by_cases hlt : t < bs.length
  · obtain ⟨b, o, rfl, hb, hcell⟩ := hc.rb.at_ hlt
    have hltI : (t : Int) < (bs.length : Int) := by omega
    go_enter Try.func89, Try.ntmps89
    go_wp2
    go_quiet (fail)
    go_wp2
    go_quiet (fail)
    go_wp2
    go_ret
    have hx := draw_range (bs[t].toNat : Int) m (by omega) (by have := UInt8.toNat_lt bs[t]; omega) hm
    exact drawn_of hx.1 hx.2 (step_at (hc.drewN _)) (step_grown _ _ _ _ _)
  · have hltI : ¬ (t : Int) < (bs.length : Int) := by omega
    obtain ⟨s', hs', he⟩ : ∃ s' : Nat, s' < 65521 ∧ ((seed : Int) * 1103 + 12345) % 65521 = s' := ⟨(((seed : Int) * 1103 + 12345) % 65521).toNat, by omega, by omega⟩
    by_cases hz : bs.length = 0
    · have hzI : ¬ (0 : Int) < (bs.length : Int) := by omega
      go_enter Try.func89, Try.ntmps89
      go_wp2
      go_quiet (fail)
      go_wp2
      go_ret
      exact drawn_of (Int.le_refl _) (by omega) (step_at ((hc.drewN _).setSeed s' hs').1) (grownBy_trans (step_grown w g 2 _ _) (grownBy_set _ g 1 _))
    · have hzI : (0 : Int) < (bs.length : Int) := by omega
      obtain ⟨r, hr, hmod⟩ : ∃ r : Nat, r < bs.length ∧ (t : Int).tmod (bs.length : Int) = r := by
        refine ⟨t % bs.length, Nat.mod_lt _ (by omega), ?_⟩
        rw [Int.tmod_eq_emod_of_nonneg (by omega)]
        exact (Int.natCast_emod t bs.length).symm
      obtain ⟨b, o, rfl, hb, hcell⟩ := hc.rb.at_ hr
      have hrI : (r : Int) < (bs.length : Int) := by omega
      have hr0 : (0 : Int) ≤ (r : Int) := by omega
      have hne : ¬ b = g := by omega
      have hne0 : ¬ (bs.length : Int) = 0 := by omega
      go_enter Try.func89, Try.ntmps89
      go_wp2
      go_quiet (fail)
      go_wp2
      go_quiet (fail)
      go_wp2
      go_ret
      have h8 := UInt8.toNat_lt bs[r]
      have hx := draw_range ((s' : Int) / 7 + wrap64 (bs[r].toNat : Int)) m (by rw [IntWalk.wrap64_in _ (by omega)]; omega) (by rw [IntWalk.wrap64_in _ (by omega)]; omega) hm
      exact drawn_of hx.1 hx.2 (step_at (((hc.drewN _).setSeed s' hs').1.drewN _)) (grownBy_trans (step_grown w g 2 _ _) (step_grown _ g 1 _ _))
end Go.Proofs.Ytmfkpiclpkeemaa
