/-
  What the model draws for FnPutBe and FnHexBack.
-/
import Derived.Test.YtdjaoicahelacaaCur3
namespace Go.Proofs.Ytdjaoicahelacaa
open Go.RowKit

set_option maxHeartbeats 400000 in
theorem bigC (A : Option Addr) (n c : Nat) (w : World) : Calls Try.prog 13 #[.slice A n c] w fun e w' => e = .returned (.bool (decide ((1048576 : Int) < n))) ∧ w = w' := by
  go_enter Try.func13, Try.ntmps13
  go_wp2
  go_ret
  exact ⟨rfl, rfl⟩

set_option maxRecDepth 100000 in
set_option maxHeartbeats 1000000 in
theorem drawPut32 (A : Option Addr) (c : Nat) (bs : List UInt8) (w : World) (hr : RB w w.heap.size A bs) (hn : bs.length ≤ 1048576) :
    Calls Try.prog 18 #[.slice A bs.length c] w fun e w' => ∃ x : Int, e = .returned (.int .i64 x) ∧ (Lit.int .i64 x).wf = true ∧ Below w.heap.size w w' := by
  go_enter Try.func18, Try.ntmps18
  go_wp2_with fail
  refine (openC A c bs w hr hn).mono ?_
  rintro e w1 ⟨rfl, hc1, hb1⟩
  go_wp2_with fail
  refine (wideC w1 w.heap.size A c bs 0 16777216 (by omega) (by omega) hc1 (by omega)).mono ?_
  rintro e w2 ⟨x, rfl, x0, x1, hc2, hg2⟩
  go_wp2_with fail
  refine (pickC w2 w.heap.size A c bs _ 256 (by omega) (by omega) hc2 (by omega)).mono ?_
  rintro e w3 ⟨y, rfl, y0, y1, hc3, hg3⟩
  obtain ⟨z, hz⟩ : ∃ z : Int, z = x * (1 + y) := ⟨_, rfl⟩
  have hz0 : 0 ≤ z := by rw [hz]; exact Int.mul_nonneg x0 (by omega)
  have hz1 : z ≤ 16777216 * 256 := by rw [hz]; exact Int.mul_le_mul (by omega) (by omega) (by omega) (by omega)
  have hz2 : x * (1 + y) = z := hz.symm
  clear hz
  go_wp2_with fail
  refine (rawC w3 w.heap.size A c bs _ hc3 (by omega)).mono ?_
  rintro e w4 ⟨r, rfl, hrw, hc4, hg4⟩
  go_wp2_with fail
  refine (rawC w4 w.heap.size A c bs _ hc4 (by omega)).mono ?_
  rintro e w5 ⟨s, rfl, hsw, hc5, hg5⟩
  go_wp2_with fail
  refine (pickC _ w.heap.size A c bs _ 3 (by omega) (by omega) (hc5.below ((Below.refl _ _).alloc (Nat.le_refl _) _)) (by omega)).mono ?_
  rintro e w6 ⟨k, rfl, k0, k1, hc6, hg6⟩
  obtain ⟨q, rfl⟩ : ∃ q : Nat, k = q := ⟨k.toNat, by omega⟩
  have hglt := hc5.lt
  obtain ⟨v, hv, hwf⟩ : ∃ v, w6.cell? ⟨w5.heap.size, q, none⟩ = some (.int .i64 v) ∧ (Lit.int .i64 v).wf = true := by
    have hblk := (hg6.block w5.heap.size (by simp) (by simp; omega)).trans (heap_alloc_new w5 _)
    rw [cell_of_row w6 w5.heap.size q _ _ (0, 0) hblk]
    have : q = 0 ∨ q = 1 ∨ q = 2 := by omega
    rcases this with rfl | rfl | rfl
    · exact ⟨_, rfl, wf_of_in _ (by omega) (by omega)⟩
    · exact ⟨_, rfl, hrw⟩
    · exact ⟨_, rfl, wrap64_wf _⟩
  have hb6 := Lib.hid (bgrown hb1 (grownBy_trans (only_new (grownBy_trans (grownBy_trans (grownBy_trans hg2 hg3) hg4) hg5) _) hg6) (fun k hk => by simp at hk; omega))
  have Hwf := Lib.hid hwf
  clear hwf hrw hsw hg2 hg3 hg4 hg5 hg6
  go_wp2
  go_ret
  exact ⟨_, rfl, Hwf.out, hb6.out⟩

/-- What is drawn for HexText: at most 4001 bytes, in memory of the call's own. -/
def DrewBytes (w : World) (m : Nat) (e : Ending) (w' : World) : Prop :=
  ∃ (ds : List UInt8) (D : Option Addr) (d : Nat), e = .returned (.slice D ds.length d) ∧ ds.length ≤ m ∧ w'.ownsRow w.heap.size 5 1 (.slice D ds.length d) ds.length (cellsOf ds) ∧ Below w.heap.size w w'

set_option maxRecDepth 100000 in
set_option maxHeartbeats 1000000 in
theorem drawHexText (A : Option Addr) (c : Nat) (bs : List UInt8) (w : World) (hr : RB w w.heap.size A bs) (hn : bs.length ≤ 1048576) :
    Calls Try.prog 14 #[.slice A bs.length c] w (DrewBytes w 4001) := by
  obtain ⟨i0, hi0, hz0, hz1, hz2⟩ := info_parts info_u8
  go_enter Try.func14, Try.ntmps14
  go_wp2_with fail
  refine (openC A c bs w hr hn).mono ?_
  rintro e w1 ⟨rfl, hc1, hb1⟩
  go_wp2_with fail
  refine (onceC w1 w.heap.size A c bs 0 40 (by omega) (by omega) hc1 (by omega)).mono ?_
  rintro e w2 ⟨b, rfl, hc2, hg2⟩
  have hb2 : Below w.heap.size w w2 := bgrown hb1 hg2 (fun k hk => by simp at hk; omega)
  cases b with
  | true =>
    go_wp2_with fail
    refine (pickC w2 w.heap.size A c bs _ 2 (by omega) (by omega) hc2 (by omega)).mono ?_
    rintro e w3 ⟨y, rfl, y0, y1, hc3, hg3⟩
    obtain ⟨q, rfl⟩ : ∃ q : Nat, y = q := ⟨y.toNat, by omega⟩
    have hb3 : Below w.heap.size w w3 := bgrown hb2 hg3 (fun k hk => by simp at hk; omega)
    go_wp2_with (at_make; refine wpList_make_full _ rfl _ _ 22 rfl w.heap.size 5 i0 (.int .u8 0) 1 Try.underlying22 hi0 hz0 hz1 _ _ _ _ (4000 + q) rfl rfl (by omega) (by omega) (by rw [hz2]; omega) (by unfold maxLen; omega) hb3.size ?_; intro w4 hown hgrow)
    go_ret
    have e : (madeCells (Value.int IntKind.u8 0).cells ((4000 + q) * 1)).toList = cellsOf (List.replicate (4000 + q) 0) := by
      have := toList_madeCells_one (.int .u8 0) (4000 + q)
      simpa [Value.cells, cellsOf] using this
    rw [e] at hown
    refine ⟨List.replicate (4000 + q) 0, some ⟨w3.heap.size, 0, none⟩, 4000 + q, ?_, by simp; omega, ?_, hb3.grown hgrow hb3.size (by simp)⟩
    · rw [List.length_replicate]; rfl
    · rw [List.length_replicate]; exact hown
  | false =>
    go_wp2_with fail
    refine (bytesC w2 w.heap.size A c bs _ 40 (by omega) (by omega) hc2 (by omega)).mono ?_
    rintro e w3 ⟨ds, D, d, t', rfl, hl, _, ho, _, hg3⟩
    have Ho := Lib.hid ho
    clear ho
    go_wp2
    go_ret
    exact ⟨ds, D, d, rfl, by omega, own_base Ho.out hb2.size, bgrown hb2 hg3 (fun k hk => by simp at hk; omega)⟩
end Go.Proofs.Ytdjaoicahelacaa
