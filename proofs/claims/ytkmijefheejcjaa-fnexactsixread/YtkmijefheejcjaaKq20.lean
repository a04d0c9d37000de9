/-
  An IPv6 packet is read by the model: where its fixed part is not right.
-/
import Derived.Test.YtkmijefheejcjaaKq14
namespace Go.Proofs.Ytkmijefheejcjaa
set_option maxRecDepth 100000
open Go.RowKit

set_option maxRecDepth 100000 in
set_option maxHeartbeats 4000000 in
theorem readS6_no (A : Option Addr) (n c : Nat) (bs : List UInt8) (w : World) (hr : RB w w.heap.size A bs) (hl : bs.length = n) (hs : n ≤ 1048576) (hT : tot6 bs ≠ 0) : Calls Try.prog 29 #[.slice A n c] w (SROut bs w) := by
  have HS : src6 bs = tot6 bs := by rw [src6_tot, if_pos hT]
  by_cases h1 : 1600 < n
  · have HO := Lib.hid (show src6 bs = 1 by rw [HS]; simp [tot6, hl, h1])
    clear hr hl hT HS
    have z0 := Lib.hid (K.new w (.cells #[.int .i64 0, .int .i64 0, .int .i64 0, .int .i64 0, .int .i64 0, .int .i64 0, .int .i64 0, .int .i64 0, .int .i64 0, .int .i64 0, .int .i64 0, .int .i64 0, .int .i64 0, .int .i64 0, .slice none 0 0, .slice none 0 0] 28))
    go_enter Try.func29, Try.ntmps29
    go_wp2_with (with_reducible refine storeS rfl _ _ rfl w.heap.size rfl rfl z0.out ?_)
    (try simp only [Exit.inBlock, Exit.then])
    refine bodyPost_ret (v := .tuple #[.agg #[.int .i64 0, .int .i64 0, .int .i64 0, .int .i64 0, .int .i64 0, .int .i64 0, .int .i64 0, .int .i64 0, .int .i64 0, .int .i64 0, .int .i64 0, .int .i64 0, .int .i64 0, .int .i64 0, .slice none 0 0, .slice none 0 0], .slice none 0 0, .int .i64 1]) ?_ rfl (srOut_no HO.out (by omega) (K.setRow_below (Joins.below_alloc1 w _) (Nat.le_refl _) _))
    exact K.resCell3 Try.results29 _ _ _ w.heap.size _ rfl (run_loadVar_row _ _ 28 28 _ (0, 0) _ (setRow_heap _ _ _ _ _ _ z0.out) Try.underlying28 rfl info_six)
  · by_cases h2 : n < 40
    · have HO := Lib.hid (show src6 bs = 2 by rw [HS]; simp [tot6, hl, h1, h2])
      clear hr hl hT HS
      have z0 := Lib.hid (K.new w (.cells #[.int .i64 0, .int .i64 0, .int .i64 0, .int .i64 0, .int .i64 0, .int .i64 0, .int .i64 0, .int .i64 0, .int .i64 0, .int .i64 0, .int .i64 0, .int .i64 0, .int .i64 0, .int .i64 0, .slice none 0 0, .slice none 0 0] 28))
      go_enter Try.func29, Try.ntmps29
      go_wp2_with (with_reducible refine storeS rfl _ _ rfl w.heap.size rfl rfl z0.out ?_)
      (try simp only [Exit.inBlock, Exit.then])
      refine bodyPost_ret (v := .tuple #[.agg #[.int .i64 0, .int .i64 0, .int .i64 0, .int .i64 0, .int .i64 0, .int .i64 0, .int .i64 0, .int .i64 0, .int .i64 0, .int .i64 0, .int .i64 0, .int .i64 0, .int .i64 0, .int .i64 0, .slice none 0 0, .slice none 0 0], .slice none 0 0, .int .i64 2]) ?_ rfl (srOut_no HO.out (by omega) (K.setRow_below (Joins.below_alloc1 w _) (Nat.le_refl _) _))
      exact K.resCell3 Try.results29 _ _ _ w.heap.size _ rfl (run_loadVar_row _ _ 28 28 _ (0, 0) _ (setRow_heap _ _ _ _ _ _ z0.out) Try.underlying28 rfl info_six)
    · obtain ⟨g, o, rfl, hg, c0'⟩ := hr.at_ (k := 0) (by omega)
      have eb : num bs 0 1 = (bs[0]'(by omega)).toNat := num_oneI bs 0 (by omega)
      have hb := num_lt1 bs 0
      rw [Nat.add_zero] at c0'
      have c0 : ∀ o', (w.alloc o').cell? ⟨g, o, none⟩ = some (.int .u8 ((bs[0]'(by omega)).toNat : Int)) := fun o' => ((Joins.below_alloc1 w o').cell (p := ⟨g, o, none⟩) hg).trans c0'
      clear c0'
      have T3 : tot6 bs = if num bs 0 1 / 16 ≠ 6 then 3 else if 1500 < sEnd bs ∨ bs.length < sEnd bs then 4 else 0 := by
        unfold tot6
        rw [if_neg (by omega), if_neg (by omega)]
      have HB := Lib.hid (fun o' => be16L (some ⟨g, o, none⟩) n c bs 4 _ (w.alloc o') ((hr.below (Joins.below_alloc1 w o')).more (by simp)) hl hs (by omega) rfl)
      have hv := num_lt2 bs 4
      have HE : sEnd bs = 40 + num bs 4 2 := rfl
      rw [HE, hl] at T3
      rw [eb] at hb T3
      generalize bs[0]'(by omega) = b at c0 eb hb T3
      clear HE eb hr hl
      generalize num bs 4 2 = v at *
      generalize b.toNat = q at *
      by_cases h3 : (q : Int) / 16 = 6
      · rw [if_neg (by omega)] at T3
        by_cases h4 : 1500 < 40 + v ∨ n < 40 + v
        · rw [if_pos h4] at T3
          have HO := Lib.hid (HS.trans T3)
          clear HS T3 hT
          have c1 := c0 (.cells #[.int .i64 0, .int .i64 0, .int .i64 0, .int .i64 0, .int .i64 0, .int .i64 0, .int .i64 0, .int .i64 0, .int .i64 0, .int .i64 0, .int .i64 0, .int .i64 0, .int .i64 0, .int .i64 0, .slice none 0 0, .slice none 0 0] 28)
          clear c0
          have z0 := Lib.hid (K.new w (.cells #[.int .i64 0, .int .i64 0, .int .i64 0, .int .i64 0, .int .i64 0, .int .i64 0, .int .i64 0, .int .i64 0, .int .i64 0, .int .i64 0, .int .i64 0, .int .i64 0, .int .i64 0, .int .i64 0, .slice none 0 0, .slice none 0 0] 28))
          go_enter Try.func29, Try.ntmps29
          go_wp2_with fail
          refine Calls.mono (HB.out _) ?_
          rintro e w1 ⟨rfl, b1⟩
          have z1 := Lib.hid (K.below b1 z0.out)
          have B1 := Lib.hid (bthen (Joins.below_alloc1 w _) b1)
          clear b1 c1
          rcases Int.lt_or_le 1500 (40 + (v : Int)) with h5 | h5
          · go_wp2_with (with_reducible refine storeS rfl _ _ rfl w.heap.size rfl rfl z1.out ?_)
            (try simp only [Exit.inBlock, Exit.then])
            refine bodyPost_ret (v := .tuple #[.agg #[.int .i64 0, .int .i64 0, .int .i64 0, .int .i64 0, .int .i64 0, .int .i64 0, .int .i64 0, .int .i64 0, .int .i64 0, .int .i64 0, .int .i64 0, .int .i64 0, .int .i64 0, .int .i64 0, .slice none 0 0, .slice none 0 0], .slice none 0 0, .int .i64 4]) ?_ rfl (srOut_no HO.out (by omega) (K.setRow_below B1.out (Nat.le_refl _) _))
            exact K.resCell3 Try.results29 _ _ _ w.heap.size _ rfl (run_loadVar_row _ _ 28 28 _ (0, 0) _ (setRow_heap _ _ _ _ _ _ z1.out) Try.underlying28 rfl info_six)
          · have h6 : (n : Int) < 40 + v := by omega
            go_wp2_with (with_reducible refine storeS rfl _ _ rfl w.heap.size rfl rfl z1.out ?_)
            (try simp only [Exit.inBlock, Exit.then])
            refine bodyPost_ret (v := .tuple #[.agg #[.int .i64 0, .int .i64 0, .int .i64 0, .int .i64 0, .int .i64 0, .int .i64 0, .int .i64 0, .int .i64 0, .int .i64 0, .int .i64 0, .int .i64 0, .int .i64 0, .int .i64 0, .int .i64 0, .slice none 0 0, .slice none 0 0], .slice none 0 0, .int .i64 4]) ?_ rfl (srOut_no HO.out (by omega) (K.setRow_below B1.out (Nat.le_refl _) _))
            exact K.resCell3 Try.results29 _ _ _ w.heap.size _ rfl (run_loadVar_row _ _ 28 28 _ (0, 0) _ (setRow_heap _ _ _ _ _ _ z1.out) Try.underlying28 rfl info_six)
        · rw [if_neg h4] at T3
          exact absurd T3 hT
      · rw [if_pos (by omega)] at T3
        have HO := Lib.hid (HS.trans T3)
        clear HS T3 hT HB
        have c1 := c0 (.cells #[.int .i64 0, .int .i64 0, .int .i64 0, .int .i64 0, .int .i64 0, .int .i64 0, .int .i64 0, .int .i64 0, .int .i64 0, .int .i64 0, .int .i64 0, .int .i64 0, .int .i64 0, .int .i64 0, .slice none 0 0, .slice none 0 0] 28)
        clear c0
        have z0 := Lib.hid (K.new w (.cells #[.int .i64 0, .int .i64 0, .int .i64 0, .int .i64 0, .int .i64 0, .int .i64 0, .int .i64 0, .int .i64 0, .int .i64 0, .int .i64 0, .int .i64 0, .int .i64 0, .int .i64 0, .int .i64 0, .slice none 0 0, .slice none 0 0] 28))
        go_enter Try.func29, Try.ntmps29
        go_wp2_with (with_reducible refine storeS rfl _ _ rfl w.heap.size rfl rfl z0.out ?_)
        (try simp only [Exit.inBlock, Exit.then])
        refine bodyPost_ret (v := .tuple #[.agg #[.int .i64 0, .int .i64 0, .int .i64 0, .int .i64 0, .int .i64 0, .int .i64 0, .int .i64 0, .int .i64 0, .int .i64 0, .int .i64 0, .int .i64 0, .int .i64 0, .int .i64 0, .int .i64 0, .slice none 0 0, .slice none 0 0], .slice none 0 0, .int .i64 3]) ?_ rfl (srOut_no HO.out (by omega) (K.setRow_below (Joins.below_alloc1 w _) (Nat.le_refl _) _))
        exact K.resCell3 Try.results29 _ _ _ w.heap.size _ rfl (run_loadVar_row _ _ 28 28 _ (0, 0) _ (setRow_heap _ _ _ _ _ _ z0.out) Try.underlying28 rfl info_six)
end Go.Proofs.Ytkmijefheejcjaa
