/-
  For every code of bytes the law FnHexBack returns true: the bytes drawn are recovered from their hexadecimal text. No condition; the argument reads afterwards as before.
-/
import Derived.Test.YtdjaoicahelacaaDraw1
import Derived.Test.YtdjaoicahelacaaHexRead
import Derived.Test.YtdjaoicahelacaaInBytes
import Derived.Test.YtdjaoicahelacaaRows
import Derived.ShutString
namespace Go.Proofs.Ytdjaoicahelacaa
open Go.RowKit

theorem hexV_of (d : Nat) (h : d < 16) : hexV (hexDig d) = d := (hexV_dig d h (hexDig d)).1 rfl

theorem hexOf_get (bs : List UInt8) : ∀ j (h : j < bs.length), (hexOf bs)[2 * j]? = some (hexDig (bs[j].toNat / 16)) ∧ (hexOf bs)[2 * j + 1]? = some (hexDig (bs[j].toNat % 16)) := by
  induction bs with
  | nil => intro j h; simp at h
  | cons b bs ih =>
    intro j h
    have e : hexOf (b :: bs) = hexDig (b.toNat / 16) :: hexDig (b.toNat % 16) :: hexOf bs := by simp [hexOf]
    rw [e]
    cases j with
    | zero => simp
    | succ j =>
      have := ih j (by simpa using h)
      rw [show 2 * (j + 1) = 2 * j + 1 + 1 by omega]
      simpa using this

theorem okHex_of (bs : List UInt8) (h : bs.length ≤ 4000) : okHex (hexOf bs) = true := by
  refine okHex_yes _ (by rw [hexOf_length]; omega) (by rw [hexOf_length]; omega) (fun i hi => ?_)
  rw [hexOf_length] at hi
  obtain ⟨g1, g2⟩ := hexOf_get bs (i / 2) (by omega)
  have hb := UInt8.toNat_lt (bs[i / 2]'(by omega))
  by_cases ho : i % 2 = 0
  · rw [show 2 * (i / 2) = i by omega, List.getElem?_eq_getElem (by rw [hexOf_length]; omega)] at g1
    injection g1 with g1
    rw [g1, hexV_of _ (by omega)]
    omega
  · rw [show 2 * (i / 2) + 1 = i by omega, List.getElem?_eq_getElem (by rw [hexOf_length]; omega)] at g2
    injection g2 with g2
    rw [g2, hexV_of _ (by omega)]
    omega

theorem hexR_of (bs : List UInt8) (h : bs.length ≤ 4000) : hexR (hexOf bs) = bs := by
  rw [hexR, if_pos (okHex_of bs h)]
  apply List.ext_getElem?
  intro j
  by_cases hj : j < bs.length
  · obtain ⟨g1, g2⟩ := hexOf_get bs j hj
    have hb := UInt8.toNat_lt bs[j]
    have e1 : hexAt (hexOf bs) (2 * j) = bs[j].toNat / 16 := by rw [hexAt, List.getD_eq_getElem?_getD, g1, Option.getD_some, hexV_of _ (by omega)]
    have e2 : hexAt (hexOf bs) (2 * j + 1) = bs[j].toNat % 16 := by rw [hexAt, List.getD_eq_getElem?_getD, g2, Option.getD_some, hexV_of _ (by omega)]
    have hl : j < (hexOf bs).length / 2 := by rw [hexOf_length]; omega
    rw [hexBytes, List.getElem?_map, List.getElem?_range hl, Option.map_some, e1, e2, List.getElem?_eq_getElem hj, show 16 * (bs[j].toNat / 16) + bs[j].toNat % 16 = bs[j].toNat by omega, UInt8.ofNat_toNat]
  · rw [List.getElem?_eq_none (by rw [hexBytes_length, hexOf_length]; omega), List.getElem?_eq_none (by omega)]

set_option maxHeartbeats 400000 in
theorem bytesOfC (D : Option Addr) (n d : Nat) (ds : List UInt8) (w : World) (hr : RB w w.heap.size D ds) (hl : ds.length = n) (hn : n ≤ 1048576) :
    Calls Try.prog 16 #[.slice D n d] w fun e w' => ∃ A c, e = .returned (.slice A n c) ∧ w'.ownsRow w.heap.size 5 1 (.slice A n c) n (cellsOf ds) ∧ Below w.heap.size w w' := by
  subst hl
  have o0 : (w.alloc (.cells #[] 5)).ownsRow w.heap.size 5 1 (.slice (some ⟨w.heap.size, 0, none⟩) 0 0) ([] : List UInt8).length (cellsOf []) := World.ownsRow_lit w #[] 0 (Nat.le_refl _) (Nat.zero_le _) rfl
  have hb0 : Below w.heap.size w (w.alloc (.cells #[] 5)) := (Below.refl _ _).alloc (Nat.le_refl _) _
  have r0 := hr.below hb0
  go_enter Try.func16, Try.ntmps16
  go_wp2_with (at_builtin; refine wpList_append_b rfl (.tmp 3) (.tmp 4) rfl w.heap.size (.slice (some ⟨w.heap.size, 0, none⟩) 0 0) [] rfl o0 _ D ds.length d ds rfl rfl r0 (by simp; omega) (by simp) ?_; intro v3 w3 hown3 hg3 _)
  go_ret
  obtain ⟨A, c, rfl⟩ := own_form hown3
  exact ⟨A, c, rfl, hown3, hb0.grown hg3 (by simp) (by simp [Value.ownBlock])⟩

set_option maxRecDepth 100000 in
set_option maxHeartbeats 1000000 in
theorem lawHexBack {w : World} (A : Option Addr) (n c : Nat) (bs : List UInt8) (hin : In w A n c bs) :
    Calls Try.prog 3 #[.slice A n c] w fun e w' => e = .returned (.bool true) ∧ Below w.heap.size w w' := by
  obtain ⟨rfl, hcap, hbig, hrb⟩ := hin
  unfold maxLen at hbig
  by_cases hn : bs.length ≤ 1048576
  · have hnI : ¬ (1048576 : Int) < (bs.length : Int) := by omega
    go_enter Try.func3, Try.ntmps3
    go_wp2_with fail
    refine (bigC A bs.length c w).mono ?_
    rintro e w0 ⟨rfl, rfl⟩
    go_wp2_with fail
    refine (drawHexText A c bs w hrb hn).mono ?_
    rintro e w1 ⟨ds, D, d, rfl, hl, o1, b1⟩
    go_wp2_with fail
    refine (bytesOfC D ds.length d ds w1 (RB.of_own o1) rfl (by omega)).mono ?_
    rintro e w2 ⟨A2, c2, rfl, o2, b2⟩
    go_wp2_with fail
    refine (implHexT A2 ds.length c2 ds w2 (RB.of_own o2) rfl).mono ?_
    rintro e w3 ⟨rfl, b3⟩
    have o3 := own_below (own_below o1 b2) b3
    have b13 := bthen (bthen b1 b2) b3
    clear o1 o2 b1 b2 b3
    by_cases h4 : ds.length ≤ 4000
    · have h4I : ¬ (4000 : Int) < (ds.length : Int) := by omega
      have ht : hexText ds = hexOf ds := by rw [hexText, if_pos h4]
      have hsz : (strOf (hexOf ds)).size = 2 * ds.length := by rw [strOf_size, hexOf_length]
      rw [ht]
      clear ht
      have Ho := Lib.hid o3
      clear o3
      go_wp2_with fail
      refine (implHexRead (strOf (hexOf ds)) w3 (by omega)).mono ?_
      rintro e w4 ⟨A4, c4, rfl, o4, b4⟩
      rw [strOf_data, hexR_of ds h4, okHex_of ds h4] at *
      have cv1 := conv_b w4 _ A4 ds.length c4 ds rfl (RB.of_own o4)
      have cv2 := conv_b w4 _ D ds.length d ds rfl (RB.of_own (own_below Ho.out b4))
      clear o4
      go_wp2
      go_ret
      exact ⟨rfl, bthen b13 b4⟩
    · have h4I : (4000 : Int) < (ds.length : Int) := by omega
      have ht : hexText ds = [] := by rw [hexText, if_neg h4]
      rw [ht]
      clear ht o3
      have hem : (strOf []).toList.isEmpty = true := by simp [ByteArray.toList_eq, strOf]
      have hem2 : (strOf []).toList = [] := by simp [ByteArray.toList_eq, strOf]
      go_wp2
      go_ret
      exact ⟨rfl, b13⟩
  · have hnI : (1048576 : Int) < (bs.length : Int) := by omega
    go_enter Try.func3, Try.ntmps3
    go_wp2_with fail
    refine (bigC A bs.length c w).mono ?_
    rintro e w0 ⟨rfl, rfl⟩
    go_wp2
    go_ret
    exact ⟨rfl, Below.refl _ _⟩

namespace fnHexBack
open Go.ChangeShapes Go.WideShapes Go.ChangeAt Go.RowKit
open Go.ChangeMaps (open_string shut_string)
theorem own : ownKnob Try.prog.godebug = none := by kernel_rfl
theorem laidOut : laidOutB Try.prog = true := by kernel_rfl

set_option maxRecDepth 100000 in
theorem lifted (os : Os) (started : os.Started) (H : Type) (enc : TypeId × Value → H) :
    ReturnsInHanded {} Try.checked os 3 .any (Rows.fnHexBackSpec.pre6 enc Try.prog Try.f3 Rows.fnHexBackRow.domain false) (Rows.fnHexBackSpec.post enc Try.prog Try.f3 false true false false) := by
  refine returnsInHanded_of_change (C := Try.checked) own started (by kernel_rfl) Try.func3
    (ChangeSpec.witness6 (enc := enc) (C := Try.checked) false ⟨#[], #[.slice none 0 0], []⟩ 8 (by kernel_rfl) (by kernel_rfl) (by kernel_rfl) (by kernel_rfl)) ?_
  intro W base args ds gs before hval0 hW _ _
  have hval : ∀ (j : Nat) t v, Try.f3.params[j]? = some t → args[j]? = some v → Value.okWide Try.prog W .any base t v := hval0
  have hW' := hW
  obtain ⟨p, q, hA0, hV, rfl, _, _⟩ := hW
  have hA : DataW.TrodAll enc Try.prog W 0 (fun _ => true) true Try.f3.params.toList args.toList ds p := hA0
  rw [Try.params3] at hA hval
  obtain ⟨v0, vs0, d0, ds0, p0, q0, hargs, rfl, rfl, h0, r0⟩ := trodAll_cons hA
  obtain ⟨rfl, rfl, rfl⟩ := trodAll_nil r0
  obtain rfl : args = #[v0] := by cases args; simp_all
  obtain ⟨rfl, rfl⟩ := trodVars_none hV
  obtain ⟨a0, n0, c0, rfl⟩ := okWide_slice Try.underlying22 (hval 0 22 v0 rfl rfl)
  have k0 := h0
  have lt0 : ∀ x ∈ p0, x.block < W.heap.size := by obtain ⟨m, hm⟩ := k0; exact DataW.trod_lt m _ _ _ hm
  obtain ⟨b0, w0⟩ := bytes_in h0
  clear hA0 hval0
  refine (lawHexBack a0 n0 c0 b0 w0).mono fun e W' ⟨he, bel⟩ => ?_
  subst he
  exact ⟨_, rfl, _, _, _, [], _, [], hW', trodAll_mk1 (shut_bool Try.underlying4 _), (trodAll_cons_mk (Below.trod laidOut (by kernel_rfl) (of_decide_eq_true (by kernel_rfl)) k0 bel lt0) trodAll_mk0), rfl, bel.frame _, fun h => by cases h⟩

theorem proved : Rows.FnHexBackSaid :=
  OpenClaim.holds_of_wide 3 Try.f3 rfl rfl rfl rfl rfl rfl rfl ⟨rfl, rfl, rfl, rfl, rfl⟩ rfl rfl rfl rfl rfl (by kernel_rfl) Try.func3 (by kernel_rfl)
    (of_decide_eq_true (by kernel_rfl)) (by unfold Func.isWrapper; rw [if_neg (of_decide_eq_false (by kernel_rfl))]; exact ⟨rfl, rfl⟩)
    (fun os started H enc _ => lifted os started H enc)
#print axioms proved
end fnHexBack
end Go.Proofs.Ytdjaoicahelacaa
