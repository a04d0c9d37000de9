/-
  The model's cursor, number by number: what it hands out hangs on the code, the place and the seed alone.
-/
import Derived.Test.YtmfkpiclpkeemaaCur2
namespace Go.Proofs.Ytmfkpiclpkeemaa
set_option maxRecDepth 100000
open Go.RowKit

/-- The cursor lies in block g: the code (it reads as bs and lies below g), the place t, the seed s. -/
structure CurS (w : World) (g : Nat) (A : Option Addr) (c : Nat) (bs : List UInt8) (t s : Nat) : Prop where
  seed : s < 65521
  blk : w.heap[g]? = some (.cells #[.slice A bs.length c, .int .i64 (t : Int), .int .i64 (s : Int)] 136 (0, 0))
  rb : RB w g A bs
  small : bs.length ≤ 1048576

section
variable {w w' : World} {g : Nat} {A : Option Addr} {c : Nat} {bs : List UInt8} {t s : Nat}
theorem CurS.lt (h : CurS w g A c bs t s) : g < w.heap.size := (Array.getElem?_eq_some_iff.1 h.blk).1
theorem CurS.cells (h : CurS w g A c bs t s) : w.cell? ⟨g, 0, none⟩ = some (.slice A bs.length c) ∧ w.cell? ⟨g, 1, none⟩ = some (.int .i64 (t : Int)) ∧ w.cell? ⟨g, 2, none⟩ = some (.int .i64 (s : Int)) ∧ (∀ i, w.frozen? ⟨g, i, none⟩ = false) := by
  refine ⟨?_, ?_, ?_, fun i => frozen_of_row w g i _ _ h.blk⟩ <;> (rw [cell_of_row w g _ _ _ (0, 0) h.blk]; rfl)
theorem CurS.drewN (h : CurS w g A c bs t s) (n : Nat) : CurS (w.drewN n) g A c bs t s := ⟨h.seed, h.blk, h.rb, h.small⟩
theorem CurS.grownBy {row : Option Nat} (h : CurS w g A c bs t s) (hg : w.grownBy w' row) (hrow : ∀ k, row = some k → g < k) : CurS w' g A c bs t s := by
  refine ⟨h.seed, (hg.block g h.lt (fun e => by have := hrow g e.symm; omega)).trans h.blk, ?_, h.small⟩
  intro hp
  obtain ⟨b, o, e, hlt, hc⟩ := h.rb hp
  exact ⟨b, o, e, hlt, fun j u hu => hg.cell (hc j u hu) (fun e => by have := hrow b e.symm; omega)⟩
theorem CurS.below (h : CurS w g A c bs t s) (hb : Below w.heap.size w w') : CurS w' g A c bs t s :=
  h.grownBy (row := none) ⟨hb.os, hb.tape, hb.output, hb.size, fun k hk _ => hb.block k hk⟩ (by simp)
theorem CurS.setAt (h : CurS w g A c bs t s) (t' : Nat) : CurS (w.setCell ⟨g, 1, none⟩ (.int .i64 (t' : Int))) g A c bs t' s := by
  refine ⟨h.seed, ?_, h.rb.grownBy (grownBy_set w g 1 _) (Nat.le_refl _), h.small⟩
  rw [heap_setCell_same w g 1 _ _ _ h.blk]
  rfl
theorem CurS.setSeed (h : CurS w g A c bs t s) (s' : Nat) (hs : s' < 65521) : CurS (w.setCell ⟨g, 2, none⟩ (.int .i64 (s' : Int))) g A c bs t s' := by
  refine ⟨hs, ?_, h.rb.grownBy (grownBy_set w g 2 _) (Nat.le_refl _), h.small⟩
  rw [heap_setCell_same w g 2 _ _ _ h.blk]
  rfl
theorem CurS.next (h : CurS w g A c bs t s) : CurS (w.setCell ⟨g, 1, none⟩ (.int .i64 ((t : Int) + 1))) g A c bs (t + 1) s := h.setAt (t + 1)
end

def nx (s : Nat) : Nat := (s * 1103 + 12345) % 65521
def byteAt (bs : List UInt8) (i : Nat) : Int := (((bs[i]?).getD 0).toNat : Int)
/-- The number that the cursor hands out below m, and the seed that it leaves. -/
def pickX (bs : List UInt8) (t s : Nat) (m : Int) : Int :=
  if t < bs.length then (wrap64 (byteAt bs t)).tmod m else if bs.length = 0 then 0 else (wrap64 ((nx s : Int) / 7 + wrap64 (byteAt bs (t % bs.length)))).tmod m
def pickS (bs : List UInt8) (t s : Nat) : Nat := if t < bs.length then s else nx s
theorem byteAt_get (bs : List UInt8) (i : Nat) (h : i < bs.length) : byteAt bs i = (bs[i].toNat : Int) := by simp [byteAt, h]
theorem byteAt_range (bs : List UInt8) (i : Nat) : 0 ≤ byteAt bs i ∧ byteAt bs i ≤ 255 := by
  unfold byteAt
  have := UInt8.toNat_lt ((bs[i]?).getD 0)
  omega
theorem nx_lt (s : Nat) : nx s < 65521 := Nat.mod_lt _ (by decide)
theorem pickX_range (bs : List UInt8) (t s : Nat) (m : Int) (hm : 2 ≤ m) : 0 ≤ pickX bs t s m ∧ pickX bs t s m ≤ m - 1 := by
  unfold pickX
  split
  · have := byteAt_range bs t
    exact draw_range _ m (by omega) (by omega) hm
  · split
    · omega
    · have := byteAt_range bs (t % bs.length)
      have := nx_lt s
      exact draw_range _ m (by rw [IntWalk.wrap64_in _ (by omega)]; omega) (by rw [IntWalk.wrap64_in _ (by omega)]; omega) hm

/-- What a call that draws an integer leaves: the integer x, the cursor at (t', s'); only its block has turned. -/
def Gives (w : World) (g : Nat) (A : Option Addr) (c : Nat) (bs : List UInt8) (t' s' : Nat) (x : Int) (e : Ending) (w' : World) : Prop :=
  e = .returned (.int .i64 x) ∧ CurS w' g A c bs t' s' ∧ w.grownBy w' (some g)

set_option maxRecDepth 100000 in
set_option maxHeartbeats 1000000 in
theorem pickD (w : World) (g : Nat) (A : Option Addr) (c : Nat) (bs : List UInt8) (t s : Nat) (m : Int) (hm : 2 ≤ m) (hmb : m ≤ 1099511627776) (hc : CurS w g A c bs t s) (ht : t ≤ 1099511627776) :
    Calls Try.prog 89 #[.pointer (some ⟨g, 0, none⟩), .int .i64 m] w (Gives w g A c bs (t + 1) (pickS bs t s) (pickX bs t s m)) := by
  obtain ⟨c0, c1, c2, cf⟩ := hc.cells
  have f1 := cf 1
  have f2 := cf 2
  have hsm := hc.small
  have hs := hc.seed
  clear cf
  by_cases hlt : t < bs.length
  · obtain ⟨b, o, rfl, hb, hcell⟩ := hc.rb.at_ hlt
    have hltI : (t : Int) < (bs.length : Int) := by omega
    have HX := Lib.hid (show pickX bs t s m = (wrap64 (bs[t].toNat : Int)).tmod m by rw [pickX, if_pos hlt, byteAt_get bs t hlt])
    have HS := Lib.hid (show pickS bs t s = s by rw [pickS, if_pos hlt])
    go_enter Try.func89, Try.ntmps89
    go_wp2
    go_quiet (fail)
    go_wp2
    go_quiet (fail)
    go_wp2
    go_ret
    refine ⟨ret_int ?_, ?_, step_grown _ _ _ _ _⟩
    · rw [HX.out]
    · rw [HS.out]; exact (hc.drewN _).next
  · have hltI : ¬ (t : Int) < (bs.length : Int) := by omega
    obtain ⟨s', hs', he⟩ : ∃ s' : Nat, s' < 65521 ∧ ((s : Int) * 1103 + 12345) % 65521 = s' := ⟨(((s : Int) * 1103 + 12345) % 65521).toNat, by omega, by omega⟩
    have hnx : nx s = s' := by unfold nx; omega
    have HS := Lib.hid (show pickS bs t s = s' by rw [pickS, if_neg hlt, hnx])
    by_cases hz : bs.length = 0
    · have hzI : ¬ (0 : Int) < (bs.length : Int) := by omega
      have HX := Lib.hid (show pickX bs t s m = 0 by rw [pickX, if_neg hlt, if_pos hz])
      go_enter Try.func89, Try.ntmps89
      go_wp2
      go_quiet (fail)
      go_wp2
      go_ret
      refine ⟨ret_int ?_, ?_, grownBy_trans (step_grown w g 2 _ _) (grownBy_set _ g 1 _)⟩
      · rw [HX.out]
      · rw [HS.out]; exact ((hc.drewN _).setSeed s' hs').next
    · have hzI : (0 : Int) < (bs.length : Int) := by omega
      obtain ⟨r, hrr, hr, hmod⟩ : ∃ r : Nat, t % bs.length = r ∧ r < bs.length ∧ (t : Int).tmod (bs.length : Int) = r := by
        refine ⟨t % bs.length, rfl, Nat.mod_lt _ (by omega), ?_⟩
        rw [Int.tmod_eq_emod_of_nonneg (by omega)]
        exact (Int.natCast_emod t bs.length).symm
      have HX := Lib.hid (show pickX bs t s m = (wrap64 ((s' : Int) / 7 + wrap64 (bs[r].toNat : Int))).tmod m by rw [pickX, if_neg hlt, if_neg hz, hnx, hrr, byteAt_get bs r hr])
      obtain ⟨b, o, rfl, hb, hcell⟩ := hc.rb.at_ hr
      have hrI : (r : Int) < (bs.length : Int) := by omega
      have hr0 : (0 : Int) ≤ (r : Int) := by omega
      have hne : ¬ b = g := by omega
      have hne0 : ¬ (bs.length : Int) = 0 := by omega
      clear hrr hnx
      go_enter Try.func89, Try.ntmps89
      go_wp2
      go_quiet (fail)
      go_wp2
      go_quiet (fail)
      go_wp2
      go_ret
      refine ⟨ret_int ?_, ?_, grownBy_trans (step_grown w g 2 _ _) (step_grown _ g 1 _ _)⟩
      · rw [HX.out]
      · rw [HS.out]; exact (((hc.drewN _).setSeed s' hs').drewN _).next
end Go.Proofs.Ytmfkpiclpkeemaa
