/-
  For every code of bytes the law FnTurnedByte returns true: the bytes drawn with their checksum behind them are right, and with one byte changed they are right no more. No condition; the argument reads afterwards as before.
-/
import Derived.Test.YtfbigjeonajmfaaDraw2
import Derived.Test.YtfbigjeonajmfaaBytesOf
import Derived.Test.YtfbigjeonajmfaaPut
import Derived.Test.YtfbigjeonajmfaaSumMath
import Derived.Test.YtfbigjeonajmfaaSumImpl
import Derived.Test.YtfbigjeonajmfaaInBytes
import Derived.Test.YtfbigjeonajmfaaRows
import Derived.ShutString
namespace Go.Proofs.Ytfbigjeonajmfaa
open Go.RowKit

theorem put16_word {n : Int} (h : isWord n = true) : 256 * ((byteOf (n / 256)).toNat : Int) + (byteOf n).toNat = n := by
  have := isWord_iff.1 h
  rw [byteOf_val, byteOf_val]
  omega

theorem set_cells (bs : List UInt8) (k : Nat) (b : UInt8) (x : Int) (h : (b.toNat : Int) = x) : (cellsOf bs).set k (.int .u8 x) = cellsOf (bs.set k b) := by
  subst h
  simp [cellsOf, List.map_set]

set_option maxRecDepth 100000 in
set_option maxHeartbeats 1000000 in
theorem lawTurnedByte {w : World} (A : Option Addr) (n c : Nat) (bs : List UInt8) (hin : In w A n c bs) :
    Calls Try.prog 5 #[.slice A n c] w fun e w' => e = .returned (.bool true) ∧ Below w.heap.size w w' := by
  obtain ⟨rfl, hcap, hbig, hrb⟩ := hin
  unfold maxLen at hbig
  by_cases hn : bs.length ≤ 1048576
  · have hnI : ¬ (1048576 : Int) < (bs.length : Int) := by omega
    go_enter Try.func5, Try.ntmps5
    go_wp2_with fail
    refine (bigC A bs.length c w).mono ?_
    rintro e w0 ⟨rfl, rfl⟩
    go_wp2_with fail
    refine (drawOnes A c bs w hrb hn).mono ?_
    rintro e w1 ⟨ds, D, d, rfl, hl, o1, b1⟩
    by_cases h60 : ds.length ≤ 60
    · obtain ⟨dt, hdt, hm, hme, hml⟩ : ∃ dt : List UInt8, w1.ownsRow w.heap.size 5 1 (.slice D dt.length d) dt.length (cellsOf dt) ∧ (ds.length : Int) - (ds.length : Int) % 2 = (dt.length : Int) ∧ dt.length % 2 = 0 ∧ dt.length ≤ 60 := by
        have hlen : (ds.take (ds.length - ds.length % 2)).length = ds.length - ds.length % 2 := by rw [List.length_take]; omega
        refine ⟨ds.take (ds.length - ds.length % 2), ?_, by rw [hlen]; omega, by rw [hlen]; omega, by rw [hlen]; omega⟩
        have := own_front o1 (ds.length - ds.length % 2) (by omega)
        rw [hlen]
        exact this
      have hcut := cut_front D ds.length d dt.length (own_cap hdt)
      clear o1
      go_wp2_with fail
      refine (bytesOfC D dt.length d dt w1 (RB.of_own hdt) rfl (by omega)).mono ?_
      rintro e w2 ⟨A2, c2, rfl, o2, b2⟩
      go_wp2_with fail
      refine (implCheck A2 dt.length c2 dt w2 (RB.of_own o2) rfl (by omega)).mono ?_
      rintro e w3 ⟨rfl, b3⟩
      go_wp2_with fail
      refine (implPut16 (checksum dt) w3).mono ?_
      rintro e w4 ⟨rfl, o4, b4⟩
      have o14 := own_below (own_below (own_below hdt b2) b3) b4
      have b14 := bthen (bthen (bthen b1 b2) b3) b4
      have hs4 := b14.size
      have hlo := Lib.hid (fun u (hu : (Value.slice D dt.length d).ownBlock = some u) => (o14.lt u hu).1)
      have r4 := RB.of_own o4
      clear o2 o4 hdt b1 b2 b3 b4 hcut
      go_wp2_with (at_builtin; refine wpList_append_b rfl (.tmp 20) (.tmp 24) rfl w.heap.size (.slice D dt.length d) dt rfl o14 _ (some ⟨w3.heap.size, 0, none⟩) 2 2 (put16 (checksum dt)) rfl rfl r4 (by simp [put16]; omega) hs4 ?_; intro v5 w5 hown5 hg5 _)
      have b15 : Below w.heap.size w w5 := bgrown b14 hg5 hlo.out
      obtain ⟨A5, c5, rfl⟩ := own_form hown5
      have hcw : isWord (checksum dt) = true := comp_word (onesSum_word (by omega))
      obtain ⟨q, hq1, hq2⟩ := sum_right hme (by omega) (byteOf (checksum dt / 256)) (byteOf (checksum dt)) (put16_word hcw)
      obtain ⟨d2, hd2⟩ : ∃ d2, d2 = dt ++ put16 (checksum dt) := ⟨_, rfl⟩
      have hd2l : d2.length = dt.length + 2 := by rw [hd2]; simp [put16]
      have hq3 : total (wordsL d2) = 65535 * q := by rw [hd2]; exact hq2
      have hones : (onesSum d2 == 65535) = true := by rw [onesSum_total (by omega), hq3, red_full hq1]; rfl
      rw [← hd2] at hown5
      rw [← hd2]
      have hd2p : 0 < d2.length := by omega
      have hd2b : d2.length ≤ 62 := by omega
      clear hq1 hq2 hd2 hcw b14 hg5 hlo r4 o14
      have c1 : ((d2.length : Int) % 2 != 0) = false := by rw [bne_eq_false_iff_eq]; omega
      have c2 : ((d2.length : Int) == 0) = false := by rw [beq_eq_false_iff_ne]; omega
      clear hd2l
      go_simp
      go_wp2_with fail
      refine (bytesOfC A5 d2.length c5 d2 w5 (RB.of_own hown5) rfl (by omega)).mono ?_
      rintro e w6 ⟨A6, c6, rfl, o6, b6⟩
      go_wp2_with fail
      refine (implRight A6 d2.length c6 d2 w6 (RB.of_own o6) rfl (by omega)).mono ?_
      rintro e w7 ⟨rfl, b7⟩
      rw [hones]
      have o7 := own_below (own_below hown5 b6) b7
      have b17 := bthen (bthen b15 b6) b7
      clear hown5 b15 b6 b7 o6 hones c1 c2
      obtain ⟨k, hk, hk2⟩ : ∃ k : Nat, pickV bs 5 d2.length = k ∧ k < d2.length := by
        have := pickV_range bs 5 d2.length (by omega)
        exact ⟨(pickV bs 5 d2.length).toNat, by omega, by omega⟩
      have P5 := pickL A bs.length c bs 5 (d2.length : Int) w7 ((hrb.below b17).more b17.size) rfl hn (by omega) (by omega) (by omega) (by omega)
      rw [hk] at P5
      clear hk
      go_wp2_with fail
      refine P5.mono ?_
      rintro e w8 ⟨rfl, rfl⟩
      clear P5
      obtain ⟨g, rfl, hg⟩ := own_some o7 hd2p
      have hc : w7.cell? ⟨g, k, none⟩ = some (.int .u8 (d2[k].toNat : Int)) := by
        rw [o7.cellAt k (by omega)]
        exact cellsOf_get _ _ _ (List.getElem?_eq_getElem hk2)
      have hfz := o7.frozenAt k
      obtain ⟨p, hp, hp0, hp1⟩ : ∃ p : Nat, pickV bs 6 255 = (p : Int) ∧ 0 ≤ (p : Int) ∧ p ≤ 254 := by
        have := pickV_range bs 6 255 (by omega)
        exact ⟨(pickV bs 6 255).toNat, by omega, by omega, by omega⟩
      have P6 := Lib.hid (show Calls Try.prog 14 #[.slice A bs.length c, .int .i64 6, .int .i64 255] w7.drew fun e w' => e = .returned (.int .i64 (p : Int)) ∧ w7.drew = w' by
        have b : Below w.heap.size w w7.drew := b17.drew
        have := pickL A bs.length c bs 6 255 w7.drew ((hrb.below b).more b.size) rfl hn (by omega) (by omega) (by omega) (by omega)
        rwa [hp] at this)
      have hb8 : d2[k].toNat < 256 := UInt8.toNat_lt _
      obtain ⟨q1, hq1⟩ : ∃ q1 : Nat, q1 = p + 1 := ⟨_, rfl⟩
      obtain ⟨r, hr1⟩ : ∃ r : Nat, r = (d2[k].toNat + q1) % 256 := ⟨_, rfl⟩
      obtain ⟨y, hy⟩ : ∃ y : Nat, y = d2[k].toNat := ⟨_, rfl⟩
      rw [← hy] at hc hb8 hr1
      have e1 : IntKind.i64.wrap (1 + (p : Int)) = (q1 : Int) := by rw [IntKind.wrap_i64]; omega
      have e2 : IntKind.u8.wrap (q1 : Int) = (q1 : Int) := by rw [IntKind.wrap_u8]; omega
      have e3 : IntKind.u8.wrap ((y : Int) + (q1 : Int)) = (r : Int) := by rw [IntKind.wrap_u8]; omega
      have hr256 : r < 256 := by omega
      have hrne : UInt8.ofNat r ≠ d2[k] := by
        intro h
        have := congrArg UInt8.toNat h
        simp at this
        omega
      have hT := Lib.hid (turned (show d2.length ≤ 2000 by omega) hq3 k hk2 (UInt8.ofNat r) hrne)
      have R := o7.stored k (.int .u8 (r : Int))
      rw [set_cells d2 k (UInt8.ofNat r) (r : Int) (by simp; omega)] at R
      have R1 := Lib.hid R.1
      have R2 := Lib.hid (b17.setCell (p := ⟨g, k, none⟩) hg (.int .u8 (r : Int)))
      clear R o7 hrne hr1 hy hq1 hq3
      go_wp2_with fail
      go_region_law (first | (go_simp; go_at_call 14; refine P6.out.mono ?_; rintro e w' ⟨rfl, rfl⟩))
      all_goals
        go_wp2_with fail
        refine (implRight _ d2.length c5 (d2.set k (UInt8.ofNat r)) _ (RB.of_own R1.out.drew) (by simp) (by omega)).mono ?_
        rintro e w9 ⟨rfl, b9⟩
        rw [show (onesSum (d2.set k (UInt8.ofNat r)) == 65535) = false from beq_eq_false_iff_ne.2 hT.out]
        go_wp2
        go_ret
        exact ⟨rfl, bthen R2.out.drew b9⟩
    · have h60I : (60 : Int) < (ds.length : Int) := by omega
      clear o1
      go_wp2
      go_ret
      exact ⟨rfl, b1⟩
  · have hnI : (1048576 : Int) < (bs.length : Int) := by omega
    go_enter Try.func5, Try.ntmps5
    go_wp2_with fail
    refine (bigC A bs.length c w).mono ?_
    rintro e w0 ⟨rfl, rfl⟩
    go_wp2
    go_ret
    exact ⟨rfl, Below.refl _ _⟩

namespace fnTurnedByte
open Go.ChangeShapes Go.WideShapes Go.ChangeAt Go.RowKit
open Go.ChangeMaps (open_string shut_string)
theorem own : ownKnob Try.prog.godebug = none := by kernel_rfl
theorem laidOut : laidOutB Try.prog = true := by kernel_rfl

set_option maxRecDepth 100000 in
theorem lifted (os : Os) (started : os.Started) (H : Type) (enc : TypeId × Value → H) :
    ReturnsInHanded {} Try.checked os 5 .any (Rows.fnTurnedByteSpec.pre6 enc Try.prog Try.f5 Rows.fnTurnedByteRow.domain false) (Rows.fnTurnedByteSpec.post enc Try.prog Try.f5 false true false false) := by
  refine returnsInHanded_of_change (C := Try.checked) own started (by kernel_rfl) Try.func5
    (ChangeSpec.witness6 (enc := enc) (C := Try.checked) false ⟨#[], #[.slice none 0 0], []⟩ 8 (by kernel_rfl) (by kernel_rfl) (by kernel_rfl) (by kernel_rfl)) ?_
  intro W base args ds gs before hval0 hW _ _
  have hval : ∀ (j : Nat) t v, Try.f5.params[j]? = some t → args[j]? = some v → Value.okWide Try.prog W .any base t v := hval0
  have hW' := hW
  obtain ⟨p, q, hA0, hV, rfl, _, _⟩ := hW
  have hA : DataW.TrodAll enc Try.prog W 0 (fun _ => true) true Try.f5.params.toList args.toList ds p := hA0
  rw [Try.params5] at hA hval
  obtain ⟨v0, vs0, d0, ds0, p0, q0, hargs, rfl, rfl, h0, r0⟩ := trodAll_cons hA
  obtain ⟨rfl, rfl, rfl⟩ := trodAll_nil r0
  obtain rfl : args = #[v0] := by cases args; simp_all
  obtain ⟨rfl, rfl⟩ := trodVars_none hV
  obtain ⟨a0, n0, c0, rfl⟩ := okWide_slice Try.underlying22 (hval 0 22 v0 rfl rfl)
  have k0 := h0
  have lt0 : ∀ x ∈ p0, x.block < W.heap.size := by obtain ⟨m, hm⟩ := k0; exact DataW.trod_lt m _ _ _ hm
  obtain ⟨b0, w0⟩ := bytes_in h0
  clear hA0 hval0
  refine (lawTurnedByte a0 n0 c0 b0 w0).mono fun e W' ⟨he, bel⟩ => ?_
  subst he
  exact ⟨_, rfl, _, _, _, [], _, [], hW', trodAll_mk1 (shut_bool Try.underlying4 _), (trodAll_cons_mk (Below.trod laidOut (by kernel_rfl) (of_decide_eq_true (by kernel_rfl)) k0 bel lt0) trodAll_mk0), rfl, bel.frame _, fun h => by cases h⟩

theorem proved : Rows.FnTurnedByteSaid :=
  OpenClaim.holds_of_wide 5 Try.f5 rfl rfl rfl rfl rfl rfl rfl ⟨rfl, rfl, rfl, rfl, rfl⟩ rfl rfl rfl rfl rfl (by kernel_rfl) Try.func5 (by kernel_rfl)
    (of_decide_eq_true (by kernel_rfl)) (by unfold Func.isWrapper; rw [if_neg (of_decide_eq_false (by kernel_rfl))]; exact ⟨rfl, rfl⟩)
    (fun os started H enc _ => lifted os started H enc)
#print axioms proved
end fnTurnedByte
end Go.Proofs.Ytfbigjeonajmfaa
