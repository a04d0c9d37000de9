/-
  What SumSwaps answers, in the program and in the model.
-/
import Derived.Test.YtfbigjeonajmfaaSumImpl
import Derived.Test.YtfbigjeonajmfaaSumSpec
namespace Go.Proofs.Ytfbigjeonajmfaa
open Go.RowKit

set_option maxRecDepth 100000 in
set_option maxHeartbeats 1000000 in
theorem implSwaps_no (check : Int) (A D : Option Addr) (n m c d : Nat) (w : World) (hn : n ≤ 1048576) (hm : m ≤ 1048576) (h : ¬ (n = m ∧ n ≤ 40)) :
    Calls Try.prog 24 #[.int .i64 check, .slice A n c, .slice D m d] w fun e w' => e = .returned (.int .i64 (-1)) ∧ w = w' := by
  by_cases h1 : n = m
  · have h2 : (40 : Int) < (n : Int) := by omega
    subst h1
    clear h
    go_enter Try.func24, Try.ntmps24
    go_wp2
    go_ret
    exact ⟨rfl, rfl⟩
  · have h2 : ((n : Int) != (m : Int)) = true := by simp; omega
    clear h
    go_enter Try.func24, Try.ntmps24
    go_wp2
    go_ret
    exact ⟨rfl, rfl⟩

set_option maxRecDepth 100000 in
set_option maxHeartbeats 1000000 in
theorem implSwaps_go (check : Int) (A D : Option Addr) (n c d : Nat) (was is : List Int) (w : World) (hx : RV w w.heap.size A (intsOf was)) (hy : RV w w.heap.size D (intsOf is)) (hl : was.length = n) (hl2 : is.length = n) (hn : n ≤ 40) :
    Calls Try.prog 24 #[.int .i64 check, .slice A n c, .slice D n d] w fun e w' => e = .returned (.int .i64 (swaps check was is)) ∧ Below w.heap.size w w' := by
  have H := Lib.hid (show swaps check was is = comp (folded (comp check :: swapWords was is)) by rw [swaps, if_pos ⟨by omega, by omega⟩])
  have hnI : ¬ (40 : Int) < (n : Int) := by omega
  go_enter Try.func24, Try.ntmps24
  go_wp2_with fail
  refine (compC _ _).mono ?_
  rintro e w1 ⟨rfl, rfl⟩
  go_wp2_with fail
  go_loopw [7, 24] (fun v i wr => ∃ k : Nat, k ≤ n ∧ i = .int .i64 k ∧ wr.ownsRow w.heap.size 3 1 v (2 * k + 1) (intsOf (comp check :: swapWords (was.take k) (is.take k))) ∧ Below w.heap.size w wr) (fun _ i _ => n - (intOf i).toNat)
  case atStart => exact ⟨0, Nat.zero_le _, rfl, World.ownsRow_lit w #[.int .i64 (comp check)] 1 (Nat.le_refl _) (by decide) rfl, (Below.refl _ _).alloc (Nat.le_refl _) _⟩
  case round =>
    obtain ⟨k, hk, rfl, ho, hb⟩ := hrel
    obtain ⟨V, vc, rfl⟩ := own_form ho
    by_cases hlt : k < n
    · obtain ⟨g, o, rfl, hg, hc0⟩ := hx.int (k := k) (by omega)
      obtain ⟨g', o', rfl, hg', hc0'⟩ := hy.int (k := k) (by omega)
      have hc : wr.cell? ⟨g, o + k, none⟩ = some (.int .i64 was[k]) := (hb.cell (p := ⟨g, o + k, none⟩) hg).trans hc0
      have hc' : wr.cell? ⟨g', o' + k, none⟩ = some (.int .i64 is[k]) := (hb.cell (p := ⟨g', o' + k, none⟩) hg').trans hc0'
      obtain ⟨x, hx1⟩ : ∃ x, x = was[k]'(by omega) := ⟨_, rfl⟩
      obtain ⟨y, hy1⟩ : ∃ y, y = is[k]'(by omega) := ⟨_, rfl⟩
      have E := Lib.hid (show comp check :: swapWords (was.take (k + 1)) (is.take (k + 1)) = (comp check :: swapWords (was.take k) (is.take k)) ++ [comp x, y] by
        rw [take_snoc was k (by omega), take_snoc is k (by omega), swapWords_snoc _ _ _ _ (by simp; omega), hx1, hy1, List.cons_append])
      rw [← hx1] at hc
      rw [← hy1] at hc'
      have hz := hb.size
      have hlt3 : ∀ j, (Value.slice V (2 * k + 1) vc).ownBlock = some j → w.heap.size ≤ j := fun j hj => (ho.lt j hj).1
      have hcA := Lib.hid (fun ob : Obj => (World.cell?_alloc_lt wr ob ⟨g, o + k, none⟩ (show g < wr.heap.size by omega)).trans hc)
      have hcB := Lib.hid (fun ob : Obj => (World.cell?_alloc_lt wr ob ⟨g', o' + k, none⟩ (show g' < wr.heap.size by omega)).trans hc')
      have hne3 := Lib.hid (show some g ≠ (Value.slice V (2 * k + 1) vc).ownBlock from fun e => by have := hlt3 g e.symm; omega)
      have hne4 := Lib.hid (show some g' ≠ (Value.slice V (2 * k + 1) vc).ownBlock from fun e => by have := hlt3 g' e.symm; omega)
      have Hlt3 := Lib.hid hlt3
      clear hc0 hc0' hx hy hx1 hy1 hlt3
      go_wp2_with fail
      go_region_held3 (fun w' => w'.cell? ⟨g, o + k, none⟩ = some (.int .i64 x) ∧ w'.cell? ⟨g', o' + k, none⟩ = some (.int .i64 y)) (first | exact ⟨hc, hc'⟩ | exact ⟨hcA.out _, hcB.out _⟩ | exact ⟨hg3.cell (hcA.out _) hne3.out, hg3.cell (hcB.out _) hne4.out⟩ | go_keep)
        (first | (refine step_append_i (by rfl) (.tmp 27) (.tmp 37) (by rfl) w.heap.size (.slice V (2 * k + 1) vc) (2 * k + 1) (comp check :: swapWords (was.take k) (is.take k)) (by rfl) ((ho.alloc _).drew) _ (some ⟨wr.heap.size, 0, none⟩) 2 2 [comp x, y] (by rfl) rfl (RV.new wr 3 (intsOf [comp x, y])) (by omega) (by simp; omega) ?_; intro v3 w3 hown3 hg3 hat3) | (go_at_call 41; with_reducible refine (compC x _).mono ?_; rintro e w' ⟨rfl, rfl⟩))
      all_goals
        go_wp2
        go_roundw
        case rel => exact ⟨k + 1, by omega, by go_num, by rw [E.out]; exact hown3, ((hb.alloc hb.size _).drew).grown hg3 (by simp; omega) Hlt3.out⟩
        case measure => simp [intOf]; omega
    · obtain rfl : k = n := by omega
      rw [List.take_of_length_le (show was.length ≤ k by omega), List.take_of_length_le (show is.length ≤ k by omega)] at ho
      have hlw : (comp check :: swapWords was is).length = 2 * k + 1 := by
        have := ho.1
        rw [intsOf_length] at this
        omega
      have R := RV.of_own ho
      clear ho
      go_wp2_with fail
      refine (foldedC _ _ _ (comp check :: swapWords was is) wr R hlw (by omega)).mono ?_
      rintro e w2 ⟨rfl, rfl⟩
      go_wp2_with fail
      refine (compC _ _).mono ?_
      rintro e w2 ⟨rfl, rfl⟩
      go_wp2
      go_ret
      exact ⟨ret_int H.out.symm, hb⟩
set_option maxHeartbeats 400000 in
theorem implSwaps (check : Int) (A D : Option Addr) (n m c d : Nat) (was is : List Int) (w : World) (hx : RV w w.heap.size A (intsOf was)) (hy : RV w w.heap.size D (intsOf is)) (hl : was.length = n) (hl2 : is.length = m) (hn : n ≤ 1048576) (hm : m ≤ 1048576) :
    Calls Try.prog 24 #[.int .i64 check, .slice A n c, .slice D m d] w fun e w' => e = .returned (.int .i64 (swaps check was is)) ∧ Below w.heap.size w w' := by
  by_cases h : n = m ∧ n ≤ 40
  · obtain ⟨rfl, h40⟩ := h
    exact implSwaps_go check A D n c d was is w hx hy hl hl2 h40
  · rw [swaps_no (by rw [hl, hl2]; exact h)]
    exact (implSwaps_no check A D n m c d w hn hm h).mono fun e w' ⟨he, hw⟩ => ⟨he, hw ▸ Below.refl _ _⟩

set_option maxRecDepth 100000 in
set_option maxHeartbeats 1000000 in
theorem specSwaps_no (check : Int) (A D : Option Addr) (n m c d : Nat) (w : World) (hn : n ≤ 1048576) (hm : m ≤ 1048576) (h : ¬ (n = m ∧ n ≤ 40)) :
    Calls Try.prog 23 #[.int .i64 check, .slice A n c, .slice D m d] w fun e w' => e = .returned (.int .i64 (-1)) ∧ w = w' := by
  by_cases h1 : n = m
  · have h2 : (40 : Int) < (n : Int) := by omega
    subst h1
    clear h
    go_enter Try.func23, Try.ntmps23
    go_wp2
    go_ret
    exact ⟨rfl, rfl⟩
  · have h2 : ((n : Int) != (m : Int)) = true := by simp; omega
    clear h
    go_enter Try.func23, Try.ntmps23
    go_wp2
    go_ret
    exact ⟨rfl, rfl⟩

set_option maxRecDepth 100000 in
set_option maxHeartbeats 1000000 in
theorem specSwaps_bad (check : Int) (A D : Option Addr) (n c d : Nat) (w : World) (hn : n ≤ 40) (h : isWord check = false) :
    Calls Try.prog 23 #[.int .i64 check, .slice A n c, .slice D n d] w fun e w' => e = .returned (.int .i64 (-1)) ∧ w = w' := by
  have hnI : ¬ (40 : Int) < (n : Int) := by omega
  go_enter Try.func23, Try.ntmps23
  go_wp2_with (go_at_call 45; refine (wordC _ _).mono ?_; rintro e w' ⟨rfl, rfl⟩)
  go_ret
  exact ⟨rfl, rfl⟩

theorem all_false (l : List Int) (k : Nat) (h : k < l.length) (hk : isWord l[k] = false) : l.all isWord = false := by
  rw [Bool.eq_false_iff]
  intro ha
  have := List.all_eq_true.1 ha _ (List.getElem_mem h)
  simp [hk] at this

set_option maxRecDepth 100000 in
set_option maxHeartbeats 1000000 in
theorem specSwaps_go (check : Int) (A D : Option Addr) (n c d : Nat) (was is : List Int) (w : World) (hx : RV w w.heap.size A (intsOf was)) (hy : RV w w.heap.size D (intsOf is)) (hl : was.length = n) (hl2 : is.length = n) (hn : n ≤ 40) (hcw : isWord check = true) :
    Calls Try.prog 23 #[.int .i64 check, .slice A n c, .slice D n d] w fun e w' => e = .returned (.int .i64 (swaps check was is)) ∧ Below w.heap.size w w' := by
  have hnI : ¬ (40 : Int) < (n : Int) := by omega
  go_enter Try.func23, Try.ntmps23
  go_wp2_with (go_at_call 45; refine (wordC _ _).mono ?_; rintro e w' ⟨rfl, rfl⟩)
  go_loop [7] (fun i => ∃ k : Nat, k ≤ n ∧ i = .int .i64 k ∧ (was.take k).all isWord = true ∧ (is.take k).all isWord = true) (fun i => n - (intOf i).toNat)
  case atStart => exact ⟨0, Nat.zero_le _, rfl, rfl, rfl⟩
  case round =>
    obtain ⟨k, hk, rfl, ha, hb⟩ := hrel
    by_cases hlt : k < n
    · obtain ⟨g, o, rfl, hg, hc⟩ := hx.int (k := k) (by omega)
      obtain ⟨g', o', rfl, hg', hc'⟩ := hy.int (k := k) (by omega)
      have hkI : (k : Int) < (n : Int) := by omega
      cases h1 : isWord (was[k]'(by omega)) with
      | false =>
        have H := Lib.hid (swaps_bad (check := check) (was := was) (is := is) (by omega) (.inr (.inl (all_false was k (by omega) h1))))
        clear ha hb hx hy
        go_wp2_with (go_at_call 45; refine (wordC _ _).mono ?_; rintro e w' ⟨rfl, rfl⟩)
        go_ret
        exact ⟨ret_int H.out.symm, Below.refl _ _⟩
      | true =>
        cases h2 : isWord (is[k]'(by omega)) with
        | false =>
          have H := Lib.hid (swaps_bad (check := check) (was := was) (is := is) (by omega) (.inr (.inr (all_false is k (by omega) h2))))
          clear ha hb hx hy
          go_wp2_with (go_at_call 45; refine (wordC _ _).mono ?_; rintro e w' ⟨rfl, rfl⟩)
          go_ret
          exact ⟨ret_int H.out.symm, Below.refl _ _⟩
        | true =>
          have Ha := Lib.hid (all_take_snoc was k (by omega) ha h1)
          have Hb := Lib.hid (all_take_snoc is k (by omega) hb h2)
          clear ha hb hx hy
          go_wp2_with (go_at_call 45; refine (wordC _ _).mono ?_; rintro e w' ⟨rfl, rfl⟩)
          go_round
          case rel => exact ⟨k + 1, by omega, by go_num, Ha.out, Hb.out⟩
          case measure => simp [intOf]; omega
    · obtain rfl : k = n := by omega
      rw [List.take_of_length_le (show was.length ≤ k by omega)] at ha
      rw [List.take_of_length_le (show is.length ≤ k by omega)] at hb
      have Ha := Lib.hid ha
      have Hb := Lib.hid hb
      clear ha hb
      go_wp2
      go_loopw [0, 8] (fun v i wr => ∃ j m : Nat, j ≤ k ∧ i = .int .i64 j ∧ v = .int .i64 (swaps check (was.take j) (is.take j)) ∧ wr = w.drewN m) (fun _ i _ => k - (intOf i).toNat)
      case atStart => exact ⟨0, 0, Nat.zero_le _, rfl, by rw [List.take_zero, List.take_zero, swaps_nil check hcw], rfl⟩
      case round =>
        obtain ⟨j, m, hj, rfl, rfl, rfl⟩ := hrel
        by_cases hlt : j < k
        · obtain ⟨g, o, rfl, hg, hc⟩ := hx.int (k := j) (by omega)
          obtain ⟨g', o', rfl, hg', hc'⟩ := hy.int (k := j) (by omega)
          have E := Lib.hid (show swap (swaps check (was.take j) (is.take j)) (was[j]'(by omega)) (is[j]'(by omega)) = swaps check (was.take (j + 1)) (is.take (j + 1)) by
            have h1 := List.all_eq_true.1 Ha.out
            have h2 := List.all_eq_true.1 Hb.out
            rw [take_snoc was j (by omega), take_snoc is j (by omega)]
            exact (swaps_step check (was.take j) (is.take j) _ _ (by simp; omega) (by simp; omega) hcw (List.all_eq_true.2 fun x hx => h1 x (List.mem_of_mem_take hx)) (List.all_eq_true.2 fun x hx => h2 x (List.mem_of_mem_take hx)) (h1 _ (List.getElem_mem _)) (h2 _ (List.getElem_mem _))).2)
          have hjI : (j : Int) < (k : Int) := by omega
          clear hx hy
          go_wp2
          go_quiet ((go_at_call 33; exact (specSwap _ _ _ _).mono fun _ _ ⟨he, hw⟩ => ⟨he, _, hw.symm⟩))
          go_wp2
          go_roundw
          case rel => exact ⟨j + 1, _, by omega, by go_num, by rw [E.out], rfl⟩
          case measure => simp [intOf]; omega
        · obtain rfl : j = k := by omega
          rw [List.take_of_length_le (show was.length ≤ j by omega), List.take_of_length_le (show is.length ≤ j by omega)]
          clear hx hy
          go_wp2
          go_ret
          exact ⟨rfl, below_drewN (Below.refl _ _) _⟩

theorem specSwaps (check : Int) (A D : Option Addr) (n m c d : Nat) (was is : List Int) (w : World) (hx : RV w w.heap.size A (intsOf was)) (hy : RV w w.heap.size D (intsOf is)) (hl : was.length = n) (hl2 : is.length = m) (hn : n ≤ 1048576) (hm : m ≤ 1048576) :
    Calls Try.prog 23 #[.int .i64 check, .slice A n c, .slice D m d] w fun e w' => e = .returned (.int .i64 (swaps check was is)) ∧ Below w.heap.size w w' := by
  by_cases h : n = m ∧ n ≤ 40
  · obtain ⟨rfl, h40⟩ := h
    cases hc : isWord check with
    | true => exact specSwaps_go check A D n c d was is w hx hy hl hl2 h40 hc
    | false =>
      rw [swaps_bad (by omega) (.inl hc)]
      exact (specSwaps_bad check A D n c d w h40 hc).mono fun e w' ⟨he, hw⟩ => ⟨he, hw ▸ Below.refl _ _⟩
  · rw [swaps_no (by rw [hl, hl2]; exact h)]
    exact (specSwaps_no check A D n m c d w hn hm h).mono fun e w' ⟨he, hw⟩ => ⟨he, hw ▸ Below.refl _ _⟩
end Go.Proofs.Ytfbigjeonajmfaa
