/-
  slices.Concat of slices of bytes: a row of its own that holds one after the other.
-/
import Derived.Test.YtmfkpiclpkeemaaRow
import Derived.Test.YtmfkpiclpkeemaaBytesOf
import Derived.Test.YtmfkpiclpkeemaaCells
import Derived.Lib.AppendZeros
namespace Go.Proofs.Ytmfkpiclpkeemaa
set_option maxRecDepth 100000
open Go.RowKit

/-- A slice of bytes and what it reads as. -/
structure Pt where
  A : Option Addr
  n : Nat
  c : Nat
  bs : List UInt8
def Pt.val (p : Pt) : Value := .slice p.A p.n p.c
def joined (ps : List Pt) : List UInt8 := ps.flatMap Pt.bs
theorem joined_succ {ps : List Pt} {k : Nat} (h : k < ps.length) : joined (ps.take (k + 1)) = joined (ps.take k) ++ ps[k].bs := by
  rw [take_snoc ps k h, joined, joined, List.flatMap_append]
  simp
theorem joined_le (ps : List Pt) (k : Nat) : (joined (ps.take k)).length ≤ (joined ps).length := by
  have : joined ps = joined (ps.take k) ++ joined (ps.drop k) := by rw [joined, joined, joined, ← List.flatMap_append, List.take_append_drop]
  rw [this, List.length_append]
  omega

set_option maxHeartbeats 1000000 in
theorem growNil (N : Nat) (w : World) (hN : N ≤ 1000) : Calls Try.prog 128 #[.slice none 0 0, .int .i64 (N : Int)] w fun e w' => ∃ D d, e = .returned (.slice D 0 d) ∧ w'.ownsRow w.heap.size 5 1 (.slice D 0 d) 0 (cellsOf []) ∧ Below w.heap.size w w' := by
  by_cases h0 : N = 0
  · subst h0
    go_enter Try.func128, Try.ntmps128
    go_wp2
    go_ret
    exact ⟨none, 0, rfl, ⟨rfl, .inl ⟨rfl, rfl⟩⟩, by go_grown⟩
  · obtain ⟨i0, hi0, hz0, hz1, hz2⟩ := info_parts info_u8
    have hrun := Lib.hid (fun ty => Lib.run_append_nil_zeros w 65 3 ty 5 i0 (.int .u8 0) .i64 .i64 Try.underlying65 Try.underlying3 hi0 hz0 N (by omega) (by omega) (by omega) (by rw [hz2]; omega))
    have hG := grownCap_ge w N 0 5
    have hM := grownCap_le_maxLen w N 0 5 (by unfold maxLen; omega)
    have hM2 := hM
    unfold maxLen at hM2
    generalize grownCap w N 0 5 = G at *
    have hpos : 0 < N := by omega
    clear h0
    go_enter Try.func128, Try.ntmps128
    go_wp2_with (at_builtin; refine Lib.wpList_append_run _ rfl _ _ _ _ rfl _ _ rfl rfl _ _ (hrun.out _) ?_)
    go_ret
    refine ⟨some ⟨w.heap.size, 0, none⟩, G, rfl, ⟨rfl, .inr ⟨w.heap.size, G, _, rfl, Nat.le_refl _, heap_alloc_new w.drew _, Nat.zero_le _, hM, ?_, rfl⟩⟩, K.undrew (Joins.below_alloc1 w.drew _)⟩
    simp [Builtin.zeroCells]
    omega

set_option maxHeartbeats 1000000 in
theorem concatC (g n : Nat) (ps : List Pt) (N : Nat) (w : World) (hrow : RV w w.heap.size (some ⟨g, 0, none⟩) (ps.map Pt.val)) (hl : ps.length = n) (hn : n ≤ 100) (hp : ∀ p ∈ ps, RB w w.heap.size p.A p.bs ∧ p.bs.length = p.n) (hN : (joined ps).length = N) (hb : N ≤ 1000) :
    Calls Try.prog 106 #[.slice (some ⟨g, 0, none⟩) n n] w fun e w' => ∃ D d, e = .returned (.slice D N d) ∧ w'.ownsRow w.heap.size 5 1 (.slice D N d) N (cellsOf (joined ps)) ∧ Below w.heap.size w w' := by
  have HL := Lib.hid hl
  have HP := Lib.hid hp
  have HN := Lib.hid hN
  have HR := Lib.hid hrow
  clear hl hp hN hrow
  go_enter Try.func106, Try.ntmps106
  go_wp2
  go_loop [3, 11] (fun s i => ∃ k : Nat, k ≤ n ∧ i = .int .i64 k ∧ s = .int .i64 ((joined (ps.take k)).length : Int)) (fun _ i => n - (intOf i).toNat)
  case atStart => exact ⟨0, Nat.zero_le _, rfl, by simp [joined]⟩
  case round =>
    obtain ⟨k, hk, rfl, rfl⟩ := hrel
    by_cases hlt : k < n
    · have hk1 : k < ps.length := by rw [HL.out]; exact hlt
      obtain ⟨g', o, e, hg, hc0⟩ := HR.out.at_ (k := k) (by rw [List.length_map]; exact hk1)
      obtain ⟨rfl, rfl⟩ : g = g' ∧ 0 = o := by simpa using e
      rw [List.getElem_map, Nat.zero_add] at hc0
      have hc : w.cell? ⟨g, k, none⟩ = some (.slice ps[k].A ps[k].n ps[k].c) := hc0
      have h1 := joined_le ps k
      have h2 := joined_le ps (k + 1)
      have h3 : (joined (ps.take (k + 1))).length = (joined (ps.take k)).length + ps[k].n := by rw [joined_succ hk1, List.length_append, (HP.out _ (List.getElem_mem hk1)).2]
      rw [HN.out] at h1 h2
      have H3 := Lib.hid h3
      rw [h3] at h2
      clear hc0 e hg h3
      generalize ps[k] = p at *
      generalize (joined (ps.take k)).length = S at *
      go_wp2
      go_round
      case rel => exact ⟨k + 1, by omega, by go_num, by rw [H3.out]; go_num⟩
      case measure => simp [intOf]; omega
    · obtain rfl : k = n := by omega
      have hS : (joined (ps.take k)).length = N := by rw [List.take_of_length_le (by rw [HL.out]; exact Nat.le_refl _)]; exact HN.out
      rw [hS]
      clear hS hk hlt
      go_wp2_with fail
      refine Calls.mono (growNil N _ hb) ?_
      rintro e w1 ⟨D, d, rfl, o1, b1⟩
      have O1 : Hid (w1.ownsRow w.heap.size 5 1 (.slice D 0 d) (joined (ps.take 0)).length (cellsOf (joined (ps.take 0)))) := Lib.hid (by simpa [joined] using o1)
      have B1 := Lib.hid b1
      clear o1 b1
      go_wp2
      go_loopw [6, 27] (fun s i wr => ∃ j : Nat, j ≤ k ∧ i = .int .i64 j ∧ Hid (wr.ownsRow w.heap.size 5 1 s (joined (ps.take j)).length (cellsOf (joined (ps.take j)))) ∧ Hid (Below w.heap.size w wr)) (fun _ i _ => k - (intOf i).toNat)
      case atStart => exact ⟨0, Nat.zero_le _, rfl, O1, B1⟩
      case round =>
        obtain ⟨j, hj, rfl, O, B⟩ := hrel
        clear O1 B1
        by_cases hlt : j < k
        · have hj1 : j < ps.length := by rw [HL.out]; exact hlt
          obtain ⟨g', o, e, hg, hc0⟩ := HR.out.at_ (k := j) (by rw [List.length_map]; exact hj1)
          obtain ⟨rfl, rfl⟩ : g = g' ∧ 0 = o := by simpa using e
          rw [List.getElem_map, Nat.zero_add] at hc0
          have hc : wr.cell? ⟨g, j, none⟩ = some (.slice ps[j].A ps[j].n ps[j].c) := (B.out.cell (p := ⟨g, j, none⟩) hg).trans hc0
          have h1 := joined_le ps j
          have h2 := joined_le ps (j + 1)
          obtain ⟨hrb, hlen⟩ := HP.out _ (List.getElem_mem hj1)
          have h3 := joined_succ hj1
          have h4 : (joined (ps.take (j + 1))).length = (joined (ps.take j)).length + ps[j].n := by rw [h3, List.length_append, hlen]
          have RBp := Lib.hid ((hrb.below B.out).more B.out.size)
          rw [HN.out] at h1 h2
          rw [h4] at h2
          have H3 := Lib.hid h3
          have H4 := Lib.hid h4
          have LN := Lib.hid hlen
          clear hc0 e hg h3 h4 hrb hlen
          generalize ps[j] = p at *
          have lo := O.out.lt
          have Z := B.out.size
          obtain ⟨L, hL⟩ : ∃ L, joined (ps.take j) = L := ⟨_, rfl⟩
          rw [hL] at O h1 h2 H3 H4
          clear hL
          go_wp2_with (at_builtin; (refine wpList_append_b rfl (.tmp 31) (.tmp 32) rfl w.heap.size u6 L rfl O.out _ p.A p.n p.c p.bs rfl LN.out RBp.out (by rw [LN.out]; omega) Z ?_; intro v3 w4 hown3 hg3 _))
          have O3 := Lib.hid hown3
          have B3 := Lib.hid (bgrown B.out hg3 (fun q hq => (lo q hq).1))
          clear hown3 hg3
          go_wp2
          go_roundw
          case rel =>
            refine ⟨j + 1, by omega, by go_num, Lib.hid ?_, B3⟩
            rw [H3.out]
            exact O3.out
          case measure => simp [intOf]; omega
        · obtain rfl : j = k := by omega
          have hS : joined (ps.take j) = joined ps := by rw [List.take_of_length_le (by rw [HL.out]; exact Nat.le_refl _)]
          have OE := O.out
          rw [hS, HN.out] at OE
          obtain ⟨D2, d2, rfl⟩ := own_form OE
          have OE2 := Lib.hid OE
          clear OE O hS
          go_wp2
          go_ret
          exact ⟨D2, d2, rfl, OE2.out, B.out⟩
end Go.Proofs.Ytmfkpiclpkeemaa
