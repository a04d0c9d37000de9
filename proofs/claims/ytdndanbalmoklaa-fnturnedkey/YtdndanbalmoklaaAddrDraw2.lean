/-
  The model's draws of addresses: of kind 4, of a drawn kind, of a kind or part that may be wrong.
-/
import Derived.Test.YtdndanbalmoklaaAddrDraw
import Derived.Handy
namespace Go.Proofs.Ytdndanbalmoklaa
set_option maxRecDepth 100000
open Go.RowKit

theorem cells5 (w : World) (x0 x1 x2 x3 x4 : Int) (j : Nat) (h : j < 5) : ∃ x : Int, (w.alloc (.cells #[.int .i64 x0, .int .i64 x1, .int .i64 x2, .int .i64 x3, .int .i64 x4] 3)).cell? ⟨w.heap.size, j, none⟩ = some (.int .i64 x) := by
  rw [cell_of_row _ w.heap.size j _ 3 (0, 0) (heap_alloc_new w _)]
  match j, h with
  | 0, _ => exact ⟨x0, rfl⟩
  | 1, _ => exact ⟨x1, rfl⟩
  | 2, _ => exact ⟨x2, rfl⟩
  | 3, _ => exact ⟨x3, rfl⟩
  | 4, _ => exact ⟨x4, rfl⟩
theorem row_kept {w w' : World} {g r : Nat} {o : Obj} (h : w.grownBy w' (some g)) (hne : r ≠ g) (hr : w.heap[r]? = some o) : w'.heap[r]? = some o :=
  (h.block r (Array.getElem?_eq_some_iff.1 hr).1 (fun e => hne (Option.some.inj e))).trans hr
theorem grown_refl (w : World) (row : Option Nat) : w.grownBy w row := ⟨rfl, rfl, rfl, Nat.le_refl _, fun _ _ _ => rfl⟩

set_option maxHeartbeats 2000000 in
theorem addr4 (w : World) (g : Nat) (A : Option Addr) (c : Nat) (bs : List UInt8) (t : Nat) (hc : Cur w g A c bs t) (ht : t ≤ 900000000000) :
    Calls Try.prog 173 #[.pointer (some ⟨g, 0, none⟩), .int .i64 4] w (AdDrawn w g A c bs (t + 108)) := by
  have hgw := hc.lt
  have HC := Lib.hid (fun o : Obj => hc.below (Joins.below_alloc1 w o))
  have HQ := Lib.hid (Go.heap_alloc_last w (.cells #[.int .i64 0, .int .i64 0, .int .i64 0, .int .i64 0, .int .i64 0] 29))
  have HG := Lib.hid (only_new (grown_refl w (some g)) (.cells #[.int .i64 0, .int .i64 0, .int .i64 0, .int .i64 0, .int .i64 0] 29))
  have hne : w.heap.size ≠ g := by omega
  go_enter Try.func173, Try.ntmps173
  go_wp2_with fail
  refine (pickC _ g A c bs t 4 (by omega) (by omega) (HC.out _) (by omega)).mono ?_
  rintro e w1 ⟨x1, rfl, _, _, hc1, hg1⟩
  have HG1 := Lib.hid (grownBy_trans HG.out hg1)
  have HQ1 := Lib.hid (row_kept hg1 hne HQ.out)
  clear hg1
  go_wp2_with fail
  refine (pickC _ g A c bs (t + 1) 3 (by omega) (by omega) hc1 (by omega)).mono ?_
  rintro e w2 ⟨x2, rfl, _, _, hc2, hg2⟩
  have HG2 := Lib.hid (grownBy_trans HG1.out hg2)
  have HQ2 := Lib.hid (row_kept hg2 hne HQ1.out)
  clear hg2 hc1
  go_wp2_with fail
  refine (pickC _ g A c bs (t + 1 + 1) 256 (by omega) (by omega) hc2 (by omega)).mono ?_
  rintro e w3 ⟨x3, rfl, _, _, hc3, hg3⟩
  have HG3 := Lib.hid (grownBy_trans HG2.out hg3)
  have HQ3 := Lib.hid (row_kept hg3 hne HQ2.out)
  clear hg3 hc2
  go_wp2_with fail
  refine (pickC _ g A c bs (t + 1 + 1 + 1) 8 (by omega) (by omega) hc3 (by omega)).mono ?_
  rintro e w4 ⟨x4, rfl, _, _, hc4, hg4⟩
  have HG4 := Lib.hid (grownBy_trans HG3.out hg4)
  have HQ4 := Lib.hid (row_kept hg4 hne HQ3.out)
  clear hg4 hc3
  go_wp2_with fail
  refine (wideC _ g A c bs (t + 1 + 1 + 1 + 1) 16777216 (by omega) (by omega) hc4 (by omega)).mono ?_
  rintro e w5 ⟨x5, rfl, _, _, hc5, hg5⟩
  have HG5 := Lib.hid (grownBy_trans HG4.out hg5)
  have HQ5 := Lib.hid (row_kept hg5 hne HQ4.out)
  clear hg5 hc4
  go_wp2_with fail
  refine (pickC _ g A c bs (t + 1 + 1 + 1 + 1 + 3) 256 (by omega) (by omega) hc5 (by omega)).mono ?_
  rintro e w6 ⟨x6, rfl, _, _, hc6, hg6⟩
  have HG6 := Lib.hid (grownBy_trans HG5.out hg6)
  have HQ6 := Lib.hid (row_kept hg6 hne HQ5.out)
  have HL6 := Lib.hid hc6.lt
  have C6 := Lib.hid (fun o : Obj => hc6.below (Joins.below_alloc1 w6 o))
  clear hg6 hc5 hc6
  go_wp2_with fail
  refine (pickC _ g A c bs (t + 1 + 1 + 1 + 1 + 3 + 1) 5 (by omega) (by omega) (C6.out _) (by omega)).mono ?_
  rintro e w7 ⟨y, rfl, y0, y1, hc7, hg7⟩
  obtain ⟨k, rfl⟩ : ∃ k : Nat, y = k := ⟨y.toNat, by omega⟩
  have hk5 : (k : Int) < 5 := by omega
  obtain ⟨z, hz⟩ := cells5 w6 (167772160 + x1) (167772160 + 256 * x2 + x3) (3232235520 + x4) (x5 * 256 + x6) 4294967295 k (by omega)
  have hz7 : w7.cell? ⟨w6.heap.size, k, none⟩ = some (.int .i64 z) := hg7.cell hz (fun e => by have := HL6.out; have h2 : w6.heap.size = g := Option.some.inj e; omega)
  have HG7 := Lib.hid (grownBy_trans (only_new HG6.out _) hg7)
  have HQ7 := Lib.hid (row_kept hg7 hne (row_on (Joins.below_alloc1 w6 _) (row_lt HQ6.out) HQ6.out))
  obtain ⟨⟨c0, c1, c2, c3, c4⟩, f0, f1, f2, f3, f4⟩ := row5 HQ7.out
  have HC7 := Lib.hid hc7
  clear hz hg7 hc7
  go_wp2
  (try simp only [Exit.inBlock, Exit.then])
  refine bodyPost_ret (v := .agg #[.int .i64 (Ad.mk 4 0 0 0 z).k, .int .i64 (Ad.mk 4 0 0 0 z).a, .int .i64 (Ad.mk 4 0 0 0 z).b, .int .i64 (Ad.mk 4 0 0 0 z).c, .int .i64 (Ad.mk 4 0 0 0 z).d]) ?_ rfl ⟨⟨4, 0, 0, 0, z⟩, t + 1 + 1 + 1 + 1 + 3 + 1 + 1, rfl, by omega, cur5 HC7.out (by omega), grown5 HG7.out (Nat.le_refl _)⟩
  refine res_cell Try.results173 _ _ _ w.heap.size _ ?_ (run_loadVar_row _ _ 29 29 _ (0, 0) _ (set5 _ _ _ _ _ HQ7.out) Try.underlying29 rfl info_addr)
  rfl

theorem addrC (w : World) (g : Nat) (A : Option Addr) (c : Nat) (bs : List UInt8) (t : Nat) (k : Int) (hc : Cur w g A c bs t) (ht : t ≤ 900000000000) :
    Calls Try.prog 173 #[.pointer (some ⟨g, 0, none⟩), .int .i64 k] w (AdDrawn w g A c bs (t + 108)) := by
  by_cases h : k = 4
  · subst h
    exact addr4 w g A c bs t hc ht
  · exact addr6 w g A c bs t k (by simpa using h) hc ht

theorem cells446 (w : World) (j : Nat) (h : j < 3) : ∃ x : Int, (w.alloc (.cells #[.int .i64 4, .int .i64 4, .int .i64 6] 3)).cell? ⟨w.heap.size, j, none⟩ = some (.int .i64 x) := cells3 w 4 4 6 j h

set_option maxHeartbeats 400000 in
theorem kindC (w : World) (g : Nat) (A : Option Addr) (c : Nat) (bs : List UInt8) (t : Nat) (hc : Cur w g A c bs t) (ht : t ≤ 900000000000) :
    Calls Try.prog 171 #[.pointer (some ⟨g, 0, none⟩)] w fun e w' => ∃ k : Int, e = .returned (.int .i64 k) ∧ Cur w' g A c bs (t + 1) ∧ w.grownBy w' (some g) := by
  have hgw := Lib.hid hc.lt
  have HC := Lib.hid (hc.below (Joins.below_alloc1 w (.cells #[.int .i64 4, .int .i64 4, .int .i64 6] 3)))
  go_enter Try.func171, Try.ntmps171
  go_wp2_with fail
  refine (pickC _ g A c bs t 3 (by omega) (by omega) HC.out (by omega)).mono ?_
  rintro e w1 ⟨y, rfl, y0, y1, hc1, hg1⟩
  obtain ⟨k, rfl⟩ : ∃ k : Nat, y = k := ⟨y.toNat, by omega⟩
  have hk3 : (k : Int) < 3 := by omega
  obtain ⟨z, hz⟩ := cells446 w k (by omega)
  have hz1 : w1.cell? ⟨w.heap.size, k, none⟩ = some (.int .i64 z) := hg1.cell hz (fun e => by have := hgw.out; have h2 : w.heap.size = g := Option.some.inj e; omega)
  clear hz
  go_wp2
  go_ret
  exact ⟨z, rfl, hc1, grownBy_trans (only_new (grown_refl w _) _) hg1⟩
end Go.Proofs.Ytdndanbalmoklaa
