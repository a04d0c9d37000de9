/-
  The parts of a text between a byte, in the model.
-/
import Derived.Test.YtckakpcjbndijabDoorSplitImpl
import Derived.Test.YtckakpcjbndijabDoorValueSpec
import Derived.Test.YtckakpcjbndijabDoorTextSpec
import Derived.StillTailTactics
import Derived.Laws.DeepStrings4
namespace Go.Proofs.YtckakpcjbndijabDoor
open Go.RowKit

/-- What the parts of a text lie in, in the model. -/
def PartsOut (ps : List (List UInt8)) (w : World) (e : Ending) (w' : World) : Prop :=
  ∃ g k, e = .returned (.slice (some ⟨g, 0, none⟩) ps.length k) ∧ w.heap.size ≤ g ∧ (∀ (j : Nat) (p : List UInt8), ps[j]? = some p → w'.cell? ⟨g, j, none⟩ = some (.string (strOf p))) ∧ Below w.heap.size w w'
set_option maxRecDepth 100000 in
theorem strsOf_get (xs : List (List UInt8)) (j : Nat) (p : List UInt8) (h : xs[j]? = some p) : (strsOf xs)[j]? = some (.string (strOf p)) := by simp [strsOf, h]
set_option maxRecDepth 100000 in
theorem extract_one (s : ByteArray) (i : Nat) (h : i < s.size) : s.extract i (i + 1) = strOf [s[i]'h] := by
  have e : (s.extract i (i + 1)).data.toList = [s[i]'h] := by
    rw [Lib.extract_data]
    have hl : i < s.data.toList.length := h
    rw [Nat.add_sub_cancel_left, List.drop_eq_getElem_cons hl]
    simp
    rfl
  rw [← strOf_toList (s.extract i (i + 1)), e]
set_option maxRecDepth 100000 in
theorem set_last (a : List (List UInt8)) (x y : List UInt8) : (strsOf (a ++ [x])).set a.length (.string (strOf y)) = strsOf (a ++ [y]) := by
  simp [strsOf]

set_option maxRecDepth 100000 in
set_option maxHeartbeats 2000000 in
theorem specGroup (c : UInt8) (s : ByteArray) (w : World) (hs : s.size ≤ 1000) : Calls Tryd.prog 35 #[.string s, .int .u8 (c.toNat : Int)] w (PartsOut (splitC c s.data.toList) w) := by
  go_enter Tryd.func35, Tryd.ntmps35
  go_wp2
  go_loopw [5, 6] (fun v q wr => ∃ i n : Nat, i ≤ s.size ∧ q = .int .i64 (i : Int) ∧ 1 ≤ n ∧ n ≤ i + 1 ∧ Hid ((splitC c (s.data.toList.take i)).length = n) ∧ Hid (wr.ownsRow w.heap.size 9 1 v n (strsOf (splitC c (s.data.toList.take i)))) ∧ Hid (Below w.heap.size w wr)) (fun _ q _ => s.size - (intOf q).toNat)
  case atStart => exact ⟨0, 1, Nat.zero_le _, rfl, Nat.le_refl _, Nat.le_refl _, Lib.hid rfl, Lib.hid (World.ownsRow_lit w #[.string (strOf [])] 1 (Nat.le_refl _) (by unfold maxLen; omega) rfl), Lib.hid ((Below.refl _ _).alloc (Nat.le_refl _) _)⟩
  case round =>
    obtain ⟨i, n, hi, rfl, hn1, hn2, hlen, ho, hb⟩ := hrel
    by_cases hlt : i < s.size
    · have hltI : (i : Int) < (s.size : Int) := by omega
      obtain ⟨b, hb0⟩ : ∃ b : UInt8, b = s[i]'hlt := ⟨_, rfl⟩
      have hxa : ∀ w, (Instr.index 9 (.string s) (.int .i64 (i : Int))).run Tryd.prog w = .ok (.int .u8 (b.toNat : Int)) w := fun w => by rw [hb0]; exact index_strB s i hlt w
      obtain ⟨init, last, e1, e2⟩ := split_snoc c b (s.data.toList.take i)
      have et : s.data.toList.take i ++ [b] = s.data.toList.take (i + 1) := by
        rw [take_snoc s.data.toList i hlt, hb0]
        rfl
      rw [et] at e2
      have hz := hb.out.size
      by_cases hbc : b = c
      · have hbI : ((b.toNat : Int) == (c.toNat : Int)) = true := by simp [hbc]
        rw [if_pos hbc, ← e1] at e2
        have E2 := Lib.hid e2
        have hlo := fun u (hu : u5.ownBlock = some u) => (ho.out.lt u hu).1
        have HLO := Lib.hid hlo
        have o2 := Lib.hid (own_below ho.out (Joins.below_alloc1 wr (.cells #[.string (strOf [])] 9)))
        obtain ⟨ps, hps⟩ : ∃ ps, ps = splitC c (s.data.toList.take i) := ⟨_, rfl⟩
        rw [← hps] at o2 E2 hlen
        clear e1 e2 et hbc hb0 hlo hps
        go_wp2_with (at_builtin; refine wpList_append_s rfl (.tmp 19) (.tmp 20) rfl w.heap.size u5 n ps rfl o2.out _ (some ⟨wr.heap.size, 0, none⟩) 1 1 [[]] rfl rfl (RV.new wr 9 (strsOf [[]])) (by omega) (by simp; omega) ?_; intro v3 w3 o3 g3)
        have R1 := Lib.hid (show w3.ownsRow w.heap.size 9 1 v3 (n + 1) (strsOf (splitC c (s.data.toList.take (i + 1)))) by rw [E2.out]; exact o3)
        have R2 := Lib.hid (show Below w.heap.size w w3 from (hb.out.alloc hz (.cells #[.string (strOf [])] 9)).grown g3 (by simp; omega) HLO.out)
        have R3 := Lib.hid (show (splitC c (s.data.toList.take (i + 1))).length = n + 1 by rw [E2.out, List.length_append, hlen.out]; rfl)
        go_wp2
        go_roundw
        case rel => exact ⟨i + 1, n + 1, by omega, by go_num, by omega, by omega, R3, R1, R2⟩
        case measure => simp [intOf]; omega
      · have hbI : ((b.toNat : Int) == (c.toNat : Int)) = false := by
          simp
          intro h
          exact hbc (UInt8.toNat_inj.1 (by omega))
        rw [if_neg hbc] at e2
        have hlen2 : init.length + 1 = n := by have := hlen.out; rw [e1] at this; simpa using this
        obtain ⟨A, k, rfl⟩ := own_form ho.out
        obtain ⟨g, rfl⟩ : ∃ g, A = some ⟨g, 0, none⟩ := by
          rcases ho.out.2 with ⟨_, h2⟩ | ⟨g, cap, cur, hv, _⟩
          · omega
          · injection hv with hA
            exact ⟨g, hA⟩
        have hg := (ho.out.lt g rfl).1
        have hc0 : wr.cell? ⟨g, n - 1, none⟩ = some (.string (strOf last)) := by
          rw [ho.out.cellAt (n - 1) (by omega), e1]
          exact strsOf_get _ _ _ (by rw [List.getElem?_append_right (by omega)]; simp [show n - 1 - init.length = 0 by omega])
        obtain ⟨m, rfl⟩ : ∃ m, n = m + 1 := ⟨n - 1, by omega⟩
        have em : init.length = m := by omega
        have hc : wr.cell? ⟨g, m, none⟩ = some (.string (strOf last)) := hc0
        have hfz : wr.frozen? ⟨g, m, none⟩ = false := ho.out.frozenAt m
        have hll : last.length ≤ 1048576 := by
          have h1 := split_size c (s.data.toList.take i) last (by rw [e1]; simp)
          have h2 := List.length_take_le i s.data.toList
          omega
        have hsz : ¬ 9223372036854775807 < (strOf last).size + (strOf [b]).size := by
          rw [strOf_size, strOf_size]
          simp
          omega
        have hex : s.extract i (i + 1) = strOf [b] := by rw [hb0]; exact extract_one s i hlt
        have hsl : ∀ w, (Instr.sliceAt 9 (.string s) (some (.int .i64 (i : Int))) (some (.int .i64 ((i : Int) + 1))) none).run Tryd.prog w = .ok (.string (strOf [b])) w := fun w => by
          rw [run_sliceAt_string (h := Tryd.underlying9), run_slice_string_if (h := Tryd.underlying9), if_pos (by omega), if_pos (by omega), ← hex]
          congr 3
        have hap : strOf last ++ strOf [b] = strOf (last ++ [b]) := (strOf_append last [b]).symm
        have hcd : wr.drew.cell? ⟨g, m, none⟩ = some (.string (strOf last)) := hc
        have hfd : wr.drew.frozen? ⟨g, m, none⟩ = false := hfz
        have R := ho.out.drew.stored m (.string (strOf (last ++ [b])))
        rw [e1, ← em, set_last, ← e2, em] at R
        have R1 := Lib.hid R.1
        have R2 := Lib.hid ((show Below w.heap.size w wr.drew from ⟨hb.out.os, hb.out.tape, hb.out.output, hb.out.size, hb.out.block⟩).setCell (p := ⟨g, m, none⟩) hg (.string (strOf (last ++ [b]))))
        have R3 := Lib.hid (show (splitC c (s.data.toList.take (i + 1))).length = m + 1 by rw [e2, List.length_append, em]; rfl)
        have p1 : IntKind.i64.wrap (m : Int) = m := by rw [IntKind.wrap_i64]; omega
        have p2 : IntKind.i64.wrap ((i : Int) + 1) = (i : Int) + 1 := by rw [IntKind.wrap_i64]; omega
        have p3 : (m : Int) < (m : Int) + 1 := by omega
        clear R e1 e2 et hbc hb0 hlen2 em hc0 ho hex hll
        go_wp2
        go_still_tail 17, (by kernel_rfl)
        change wpList _ _ _ _ _ wr.drew
        clear hc hfz hsl hxa
        generalize wr.drew = w2 at *
        go_wp2
        go_roundw
        case rel => exact ⟨i + 1, m + 1, by omega, by go_num, by omega, by omega, R3, R1, R2⟩
        case measure => simp [intOf]; omega
    · obtain rfl : i = s.size := by omega
      have hltI : ¬ (s.size : Int) < (s.size : Int) := by omega
      have et : s.data.toList.take s.size = s.data.toList := List.take_of_length_le (by simp)
      have hl := hlen.out
      have ho2 := ho.out
      rw [et] at hl ho2
      obtain ⟨A, k, rfl⟩ := own_form ho2
      obtain ⟨g, rfl⟩ : ∃ g, A = some ⟨g, 0, none⟩ := by
        rcases ho2.2 with ⟨_, h2⟩ | ⟨g, cap, cur, hv, _⟩
        · omega
        · injection hv with hA
          exact ⟨g, hA⟩
      have F := Lib.hid (show PartsOut (splitC c s.data.toList) w (.returned (.slice (some ⟨g, 0, none⟩) n k)) wr from ⟨g, k, by rw [hl], (ho2.lt g rfl).1, fun j p hp => by
        rw [ho2.cellAt j (by have := (List.getElem?_eq_some_iff.1 hp).1; omega)]
        exact strsOf_get _ _ _ hp, hb.out⟩)
      clear et hl ho2
      go_wp2
      go_ret
      exact F.out
end Go.Proofs.YtckakpcjbndijabDoor
