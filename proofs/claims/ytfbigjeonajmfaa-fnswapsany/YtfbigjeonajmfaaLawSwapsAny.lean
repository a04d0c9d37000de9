/-
  For every code of bytes the law FnSwapsAny returns true: exchanging the drawn words in the other order yields the same checksum. No condition; the argument reads afterwards as before.
-/
import Derived.Test.YtfbigjeonajmfaaDraw2s
import Derived.Test.YtfbigjeonajmfaaSumMath
import Derived.Test.YtfbigjeonajmfaaSumSwaps
import Derived.Test.YtfbigjeonajmfaaInBytes
import Derived.Test.YtfbigjeonajmfaaRows
import Derived.ShutString
namespace Go.Proofs.Ytfbigjeonajmfaa
open Go.RowKit

theorem take_rev (xs : List Int) (k : Nat) (h : k < xs.length) : (xs.take (k + 1)).reverse = [xs[k]] ++ (xs.take k).reverse := by
  rw [take_snoc xs k h, List.reverse_append]
  rfl

set_option maxRecDepth 100000 in
set_option maxHeartbeats 2000000 in
theorem lawSwapsAny {w : World} (A : Option Addr) (n c : Nat) (bs : List UInt8) (hin : In w A n c bs) :
    Calls Try.prog 4 #[.slice A n c] w fun e w' => e = .returned (.bool true) ∧ Below w.heap.size w w' := by
  obtain ⟨rfl, hcap, hbig, hrb⟩ := hin
  unfold maxLen at hbig
  by_cases hn : bs.length ≤ 1048576
  · have hnI : ¬ (1048576 : Int) < (bs.length : Int) := by omega
    go_enter Try.func4, Try.ntmps4
    go_wp2_with fail
    refine (bigC A bs.length c w).mono ?_
    rintro e w0 ⟨rfl, rfl⟩
    go_wp2_with fail
    refine (drawSwaps A c bs w hrb hn).mono ?_
    rintro e w1 ⟨check, xs, ys, C, D, cc, dd, rfl, hxl, hyl, oC, oD, b1⟩
    go_wp2_with fail
    refine (specSwaps check C D xs.length ys.length cc dd xs ys w1 (RV.of_own oC) (RV.of_own oD) rfl rfl (by omega) (by omega)).mono ?_
    rintro e w2 ⟨rfl, b2⟩
    have oC2 := own_below oC b2
    have oD2 := own_below oD b2
    have b12 := bthen b1 b2
    clear oC oD b1 b2
    obtain ⟨w3, hw3⟩ : ∃ w3, w3 = (w2.alloc (.cells #[] 3)).alloc (.cells #[] 3) := ⟨_, rfl⟩
    have oC3 : w3.ownsRow w.heap.size 3 1 (.slice C xs.length cc) xs.length (intsOf xs) := by rw [hw3]; exact (oC2.alloc _).alloc _
    have oD3 : w3.ownsRow w.heap.size 3 1 (.slice D ys.length dd) ys.length (intsOf ys) := by rw [hw3]; exact (oD2.alloc _).alloc _
    have b13 : Below w.heap.size w w3 := by rw [hw3]; exact (b12.alloc b12.size _).alloc (by have := b12.size; simp; omega) _
    have oa3 : w3.ownsRow w.heap.size 3 1 (.slice (some ⟨w2.heap.size, 0, none⟩) 0 0) 0 (intsOf (xs.take 0).reverse) := by
      rw [hw3]
      exact (World.ownsRow_lit w2 #[] 0 b12.size (Nat.zero_le _) rfl).alloc _
    have ob3 : w3.ownsRow w.heap.size 3 1 (.slice (some ⟨w2.heap.size + 1, 0, none⟩) 0 0) 0 (intsOf (ys.take 0).reverse) := by
      rw [hw3]
      have := World.ownsRow_lit (base := w.heap.size) (e := 3) (size := 1) (w2.alloc (.cells #[] 3)) #[] 0 (by have := b12.size; simp; omega) (Nat.zero_le _) rfl
      simpa [intsOf] using this
    go_wp2
    rw [← hw3]
    clear hw3 oC2 oD2
    go_loopw [7, 9] (fun va i wr => ∃ k : Nat, k ≤ xs.length ∧ i = .int .i64 k ∧ wr.ownsRow w.heap.size 3 1 va k (intsOf (xs.take k).reverse) ∧ Below w3.heap.size w3 wr) (fun _ i _ => xs.length - (intOf i).toNat)
    case atStart => exact ⟨0, Nat.zero_le _, rfl, oa3, Below.refl _ _⟩
    case round =>
      obtain ⟨k, hk, rfl, ho, hb⟩ := hrel
      clear oa3
      obtain ⟨V, vc, rfl⟩ := own_form ho
      by_cases hlt : k < xs.length
      · obtain ⟨g, o, rfl, hg, hc0⟩ := (RV.of_own oC3).int hlt
        have hc : wr.cell? ⟨g, o + k, none⟩ = some (.int .i64 xs[k]) := (hb.cell (p := ⟨g, o + k, none⟩) hg).trans hc0
        obtain ⟨x, hx⟩ : ∃ x, x = xs[k] := ⟨_, rfl⟩
        have E := Lib.hid (show (xs.take (k + 1)).reverse = [x] ++ (xs.take k).reverse by rw [take_rev xs k hlt, hx])
        rw [← hx] at hc
        have hkI : (k : Int) < (xs.length : Int) := by omega
        have hbs : w.heap.size ≤ wr.heap.size := Nat.le_trans b13.size hb.size
        have on : (wr.alloc (.cells #[.int .i64 x] 3)).ownsRow w.heap.size 3 1 (.slice (some ⟨wr.heap.size, 0, none⟩) 1 1) 1 (intsOf [x]) := World.ownsRow_lit wr #[.int .i64 x] 1 hbs (by decide) rfl
        have On := Lib.hid on
        have rv := Lib.hid (RV.of_own (ho.alloc (.cells #[.int .i64 x] 3)))
        have hlv : (xs.take k).reverse.length = k := by simp; omega
        have Hlv := Lib.hid hlv
        have hb' := Lib.hid hb
        have hbz := hb.size
        clear on hlv hx hc0 ho hb
        go_wp2_with (at_builtin; refine wpList_append_i rfl (.tmp 35) (.tmp 36) rfl w.heap.size (.slice (some ⟨wr.heap.size, 0, none⟩) 1 1) 1 [x] rfl On.out _ V k vc (xs.take k).reverse rfl Hlv.out rv.out (by omega) (by simp; omega) ?_; intro v3 w4 hown3 hg3 _)
        go_roundw
        case rel => exact ⟨k + 1, by omega, by go_num, by rw [E.out, Nat.add_comm k 1]; exact hown3, (hb'.out.alloc hbz _).grown hg3 (by simp; omega) (by simp [Value.ownBlock]; omega)⟩
        case measure => simp [intOf]; omega
      · obtain rfl : k = xs.length := by omega
        rw [List.take_length] at ho
        have oC4 := own_below oC3 hb
        have oD4 := own_below oD3 hb
        have ob4 := own_below ob3 hb
        have b14 : Below w.heap.size w wr := bthen b13 hb
        clear oC3 oD3 ob3 b13 hb
        have hkI : ¬ (xs.length : Int) < (xs.length : Int) := by omega
        obtain ⟨w5, hw5⟩ : ∃ w5, w5 = wr := ⟨_, rfl⟩
        subst hw5
        have oa5 := Lib.hid ho
        clear ho
        go_wp2
        go_loopw [8, 10] (fun vb i ws => ∃ k : Nat, k ≤ ys.length ∧ i = .int .i64 k ∧ ws.ownsRow w.heap.size 3 1 vb k (intsOf (ys.take k).reverse) ∧ Below w5.heap.size w5 ws) (fun _ i _ => ys.length - (intOf i).toNat)
        case atStart => exact ⟨0, Nat.zero_le _, rfl, ob4, Below.refl _ _⟩
        case round =>
          obtain ⟨k, hk, rfl, ho, hb⟩ := hrel
          clear ob4
          obtain ⟨U, uc, rfl⟩ := own_form ho
          by_cases hlt : k < ys.length
          · obtain ⟨g, o, rfl, hg, hc0⟩ := (RV.of_own oD4).int hlt
            have hc : wr.cell? ⟨g, o + k, none⟩ = some (.int .i64 ys[k]) := (hb.cell (p := ⟨g, o + k, none⟩) hg).trans hc0
            obtain ⟨x, hx⟩ : ∃ x, x = ys[k] := ⟨_, rfl⟩
            have E := Lib.hid (show (ys.take (k + 1)).reverse = [x] ++ (ys.take k).reverse by rw [take_rev ys k hlt, hx])
            rw [← hx] at hc
            have hkI : (k : Int) < (ys.length : Int) := by omega
            have hbs : w.heap.size ≤ wr.heap.size := Nat.le_trans b14.size hb.size
            have On := Lib.hid (show (wr.alloc (.cells #[.int .i64 x] 3)).ownsRow w.heap.size 3 1 (.slice (some ⟨wr.heap.size, 0, none⟩) 1 1) 1 (intsOf [x]) from World.ownsRow_lit wr #[.int .i64 x] 1 hbs (by decide) rfl)
            have rv := Lib.hid (RV.of_own (ho.alloc (.cells #[.int .i64 x] 3)))
            have Hlv := Lib.hid (show (ys.take k).reverse.length = k by simp; omega)
            have hb' := Lib.hid hb
            have hbz := hb.size
            clear hx hc0 ho hb
            go_wp2_with (at_builtin; refine wpList_append_i rfl (.tmp 48) (.tmp 49) rfl w.heap.size (.slice (some ⟨wr.heap.size, 0, none⟩) 1 1) 1 [x] rfl On.out _ U k uc (ys.take k).reverse rfl Hlv.out rv.out (by omega) (by simp; omega) ?_; intro v3 w4 hown3 hg3 _)
            go_roundw
            case rel => exact ⟨k + 1, by omega, by go_num, by rw [E.out, Nat.add_comm k 1]; exact hown3, (hb'.out.alloc hbz _).grown hg3 (by simp; omega) (by simp [Value.ownBlock]; omega)⟩
            case measure => simp [intOf]; omega
          · obtain rfl : k = ys.length := by omega
            rw [List.take_length] at ho
            have oC5 := own_below oC4 hb
            have oD5 := own_below oD4 hb
            have oa6 := own_below oa5.out hb
            have b16 : Below w.heap.size w wr := bthen b14 hb
            clear oC4 oD4 oa5 b14 hb hkI
            have hkI : ¬ (ys.length : Int) < (ys.length : Int) := by omega
            go_wp2_with fail
            refine (implSwaps check V U xs.length ys.length vc uc xs.reverse ys.reverse wr (RV.of_own oa6) (RV.of_own ho) (by simp) (by simp) (by omega) (by omega)).mono ?_
            rintro e w7 ⟨rfl, b7⟩
            rw [swaps_reverse]
            go_wp2_with fail
            refine (implSwaps check C D xs.length ys.length cc dd xs ys w7 (RV.of_own (own_below oC5 b7)) (RV.of_own (own_below oD5 b7)) rfl rfl (by omega) (by omega)).mono ?_
            rintro e w8 ⟨rfl, b8⟩
            go_wp2
            go_ret
            exact ⟨rfl, bthen (bthen b16 b7) b8⟩
  · have hnI : (1048576 : Int) < (bs.length : Int) := by omega
    go_enter Try.func4, Try.ntmps4
    go_wp2_with fail
    refine (bigC A bs.length c w).mono ?_
    rintro e w0 ⟨rfl, rfl⟩
    go_wp2
    go_ret
    exact ⟨rfl, Below.refl _ _⟩

namespace fnSwapsAny
open Go.ChangeShapes Go.WideShapes Go.ChangeAt Go.RowKit
open Go.ChangeMaps (open_string shut_string)
theorem own : ownKnob Try.prog.godebug = none := by kernel_rfl
theorem laidOut : laidOutB Try.prog = true := by kernel_rfl

set_option maxRecDepth 100000 in
theorem lifted (os : Os) (started : os.Started) (H : Type) (enc : TypeId × Value → H) :
    ReturnsInHanded {} Try.checked os 4 .any (Rows.fnSwapsAnySpec.pre6 enc Try.prog Try.f4 Rows.fnSwapsAnyRow.domain false) (Rows.fnSwapsAnySpec.post enc Try.prog Try.f4 false true false false) := by
  refine returnsInHanded_of_change (C := Try.checked) own started (by kernel_rfl) Try.func4
    (ChangeSpec.witness6 (enc := enc) (C := Try.checked) false ⟨#[], #[.slice none 0 0], []⟩ 8 (by kernel_rfl) (by kernel_rfl) (by kernel_rfl) (by kernel_rfl)) ?_
  intro W base args ds gs before hval0 hW _ _
  have hval : ∀ (j : Nat) t v, Try.f4.params[j]? = some t → args[j]? = some v → Value.okWide Try.prog W .any base t v := hval0
  have hW' := hW
  obtain ⟨p, q, hA0, hV, rfl, _, _⟩ := hW
  have hA : DataW.TrodAll enc Try.prog W 0 (fun _ => true) true Try.f4.params.toList args.toList ds p := hA0
  rw [Try.params4] at hA hval
  obtain ⟨v0, vs0, d0, ds0, p0, q0, hargs, rfl, rfl, h0, r0⟩ := trodAll_cons hA
  obtain ⟨rfl, rfl, rfl⟩ := trodAll_nil r0
  obtain rfl : args = #[v0] := by cases args; simp_all
  obtain ⟨rfl, rfl⟩ := trodVars_none hV
  obtain ⟨a0, n0, c0, rfl⟩ := okWide_slice Try.underlying22 (hval 0 22 v0 rfl rfl)
  have k0 := h0
  have lt0 : ∀ x ∈ p0, x.block < W.heap.size := by obtain ⟨m, hm⟩ := k0; exact DataW.trod_lt m _ _ _ hm
  obtain ⟨b0, w0⟩ := bytes_in h0
  clear hA0 hval0
  refine (lawSwapsAny a0 n0 c0 b0 w0).mono fun e W' ⟨he, bel⟩ => ?_
  subst he
  exact ⟨_, rfl, _, _, _, [], _, [], hW', trodAll_mk1 (shut_bool Try.underlying4 _), (trodAll_cons_mk (Below.trod laidOut (by kernel_rfl) (of_decide_eq_true (by kernel_rfl)) k0 bel lt0) trodAll_mk0), rfl, bel.frame _, fun h => by cases h⟩

theorem proved : Rows.FnSwapsAnySaid :=
  OpenClaim.holds_of_wide 4 Try.f4 rfl rfl rfl rfl rfl rfl rfl ⟨rfl, rfl, rfl, rfl, rfl⟩ rfl rfl rfl rfl rfl (by kernel_rfl) Try.func4 (by kernel_rfl)
    (of_decide_eq_true (by kernel_rfl)) (by unfold Func.isWrapper; rw [if_neg (of_decide_eq_false (by kernel_rfl))]; exact ⟨rfl, rfl⟩)
    (fun os started H enc _ => lifted os started H enc)
#print axioms proved
end fnSwapsAny
end Go.Proofs.Ytfbigjeonajmfaa
