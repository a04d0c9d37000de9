/-
  For all bytes as a code the law FnEtherBack returns true: the frame that the model draws from the code, encoded by impl.EtherBytes, is decoded by impl.EtherRead as that frame; a frame that is not valid is encoded as no bytes. No condition; the argument reads afterwards as before.
-/
import Derived.Test.YtaemonjiejgciaaEthBad
import Derived.Test.YtaemonjiejgciaaEthBackLib
import Derived.Test.YtaemonjiejgciaaEthReadI
import Derived.Test.YtaemonjiejgciaaStr
import Derived.Test.YtaemonjiejgciaaRows
import Derived.ShutString
namespace Go.Proofs.Ytaemonjiejgciaa
open Go.RowKit

set_option maxHeartbeats 400000 in
theorem bigC (A : Option Addr) (n c : Nat) (b : Bool) (w : World) (h : decide ((1048576 : Int) < n) = b) : Calls Try.prog 25 #[.slice A n c] w fun e w' => e = .returned (.bool b) ∧ w = w' := by
  have H := Lib.hid h
  clear h
  go_enter Try.func25, Try.ntmps25
  go_wp2
  go_ret
  exact ⟨ret_bool H.out, rfl⟩

set_option maxRecDepth 100000 in
set_option maxHeartbeats 1000000 in
theorem drawEtherE (bs : List UInt8) (hb : bs.length ≤ 1048576) :
    ∃ (x : Eh) (ds : List UInt8), ds.length ≤ 1600 ∧ ∀ (w : World) (A : Option Addr) (n c : Nat), RB w w.heap.size A bs → bs.length = n → Calls Try.prog 26 #[.slice A n c] w (EthOut x ds ds.length w) := by
  obtain ⟨x, ds, t', s', hl, hd⟩ := badEtherE bs 0 (71 + bs.length % 1000) (by omega) hb
  have HD := Lib.hid hd
  clear hd
  refine ⟨x, ds, hl, fun w A n c hr hn => ?_⟩
  have R1 := Lib.hid (fun o => (hr.below (Joins.below_alloc1 w o)).more (show w.heap.size ≤ (w.alloc o).heap.size by simp))
  have HN := Lib.hid hn
  have hn2 : n ≤ 1048576 := by omega
  have z0 := Lib.hid (K.new w (.cells #[.int .i64 0, .int .i64 0, .int .i64 0, .int .i64 0, .slice none 0 0] 27))
  clear hr hn
  go_enter Try.func26, Try.ntmps26
  go_wp2_with fail
  refine (openD A n c bs _ (R1.out _) HN.out hn2).mono ?_
  rintro e w1 ⟨rfl, c1, b1⟩
  have z1 := Lib.hid (K.below b1 z0.out)
  have B1 := Lib.hid (bthen (Joins.below_alloc1 w _) b1)
  have C1 := Lib.hid c1
  have e1 : (w.alloc (.cells #[.int .i64 0, .int .i64 0, .int .i64 0, .int .i64 0, .slice none 0 0] 27)).heap.size = w.heap.size + 1 := by simp
  rw [e1] at C1
  rw [e1]
  clear c1 b1 e1
  go_wp2_with fail
  refine (HD.out w1 (w.heap.size + 1) A c C1.out).mono ?_
  rintro e w2 ⟨D, d, rfl, o2, c2, g2⟩
  have z2 := Lib.hid (K.kept g2 z1.out (fun k hk => by cases hk; omega))
  have B2 := Lib.hid (bgrown B1.out g2 (fun k hk => by cases hk; omega))
  have O2 := Lib.hid (own_base o2 (show w.heap.size + 1 ≤ w1.heap.size from Nat.le_of_lt C1.out.lt))
  clear c2 g2 o2
  obtain ⟨⟨c0, c1, c2, c3, c4⟩, f0, f1, f2, f3, f4⟩ := K.row5 z2.out
  go_wp2
  (try simp only [Exit.inBlock, Exit.then])
  refine bodyPost_ret (v := .agg #[.int .i64 x.d, .int .i64 x.s, .int .i64 x.t, .int .i64 x.k, .slice D ds.length d]) ?_ rfl ⟨D, d, rfl, own_base (own_set5 O2.out _ _ _ _ _ _ (by omega)) (by omega), by have := B2.out; go_grown⟩
  refine K.resCell Try.results26 _ _ _ w.heap.size _ ?_ (run_loadVar_row _ _ 27 27 _ (0, 0) _ (K.set5 _ _ _ _ _ z2.out) Try.underlying27 rfl info_eth)
  rfl

set_option maxHeartbeats 1000000 in
theorem sameC (x : Eh) (A D : Option Addr) (n c d : Nat) (bs : List UInt8) (w : World) (hx : RB w w.heap.size A bs) (hy : RB w w.heap.size D bs) (hl : bs.length = n) :
    Calls Try.prog 27 #[.agg #[.int .i64 x.d, .int .i64 x.s, .int .i64 x.t, .int .i64 x.k, .slice A n c], .agg #[.int .i64 x.d, .int .i64 x.s, .int .i64 x.t, .int .i64 x.k, .slice D n d]] w fun e w' => e = .returned (.bool true) ∧ Below w.heap.size w w' := by
  have hA := conv_b ((w.alloc (.cells #[.int .i64 x.d, .int .i64 x.s, .int .i64 x.t, .int .i64 x.k, .slice A n c] 27)).alloc (.cells #[.int .i64 x.d, .int .i64 x.s, .int .i64 x.t, .int .i64 x.k, .slice D n d] 27)) w.heap.size A n c bs hl (hx.below (Joins.below_alloc2 w _ _))
  have hD := conv_b ((w.alloc (.cells #[.int .i64 x.d, .int .i64 x.s, .int .i64 x.t, .int .i64 x.k, .slice A n c] 27)).alloc (.cells #[.int .i64 x.d, .int .i64 x.s, .int .i64 x.t, .int .i64 x.k, .slice D n d] 27)) w.heap.size D n d bs hl (hy.below (Joins.below_alloc2 w _ _))
  clear hx hy hl
  go_enter Try.func27, Try.ntmps27
  go_wp2
  go_ret
  exact ⟨rfl, by go_grown⟩

set_option maxHeartbeats 400000 in
theorem lawBack_big {w : World} (A : Option Addr) (n c : Nat) (h : (1048576 : Int) < n) : Calls Try.prog 7 #[.slice A n c] w fun e w' => e = .returned (.bool true) ∧ Below w.heap.size w w' := by
  have H := Lib.hid (fun v => bigC A n c true v (by simpa using h))
  go_enter Try.func7, Try.ntmps7
  go_wp2_with fail
  refine (H.out _).mono ?_
  rintro e w1 ⟨rfl, rfl⟩
  go_wp2
  go_ret
  exact ⟨rfl, Below.refl _ _⟩

set_option maxRecDepth 100000 in
set_option maxHeartbeats 1000000 in
theorem lawBack_small {w : World} (A : Option Addr) (n c : Nat) (bs : List UInt8) (hr : RB w w.heap.size A bs) (hl : bs.length = n) (hn : n ≤ 1048576) : Calls Try.prog 7 #[.slice A n c] w fun e w' => e = .returned (.bool true) ∧ Below w.heap.size w w' := by
  obtain ⟨x, ds, hds, hd⟩ := drawEtherE bs (by omega)
  obtain ⟨m, hm⟩ : ∃ m, ds.length = m := ⟨_, rfl⟩
  rw [hm] at hd hds
  obtain ⟨es, hes⟩ : ∃ es, x.bytes ds = es := ⟨_, rfl⟩
  obtain ⟨q, hq⟩ : ∃ q, es.length = q := ⟨_, rfl⟩
  have hq2 : q ≤ 1600 := by rw [← hq, ← hes]; exact x.bytes_length ds
  have io : ∀ (D : Option Addr) (d : Nat) (v : World), RB v v.heap.size D ds → Calls Try.prog 16 #[.agg #[.int .i64 x.d, .int .i64 x.s, .int .i64 x.t, .int .i64 x.k, .slice D m d]] v fun e v' => ∃ A c, e = .returned (.slice A q c) ∧ v'.ownsRow v.heap.size 5 1 (.slice A q c) q (cellsOf es) ∧ Below v.heap.size v v' := by
    intro D d v h
    have h := implEB x D m d ds v h hm
    unfold EBOut at h
    rwa [hes, hq] at h
  have DR := Lib.hid hd
  have PO := Lib.hid io
  have BG := Lib.hid (fun v => bigC A n c false v (by simp; omega))
  have HL := Lib.hid hl
  have HM := Lib.hid hm
  have R0 := Lib.hid hr
  clear hd io hr hl
  cases hok : x.ok m
  · have SO := Lib.hid (fun (D : Option Addr) (d : Nat) (v : World) => by have h := specEtherOk x D m d v (by omega); rw [hok] at h; exact h)
    have hq0 : q = 0 := by
      rw [← hq, ← hes, Eh.bytes, hm, hok]
      rfl
    subst hq0
    clear hok hes hq hm
    go_enter Try.func7, Try.ntmps7
    go_wp2_with fail
    refine (BG.out _).mono ?_
    rintro e w0 ⟨rfl, rfl⟩
    go_wp2_with fail
    refine (DR.out w A n c R0.out HL.out).mono ?_
    rintro e w1 ⟨D1, t1, rfl, o1, b1⟩
    have r1 := Lib.hid (K.new w1 (.cells #[.int .i64 x.d, .int .i64 x.s, .int .i64 x.t, .int .i64 x.k, .slice D1 m t1] 27))
    have B1 := Lib.hid (bthen b1 (Joins.below_alloc1 w1 (.cells #[.int .i64 x.d, .int .i64 x.s, .int .i64 x.t, .int .i64 x.k, .slice D1 m t1] 27)))
    clear b1 o1
    go_wp2_with fail
    refine (DR.out _ A n c ((R0.out.below B1.out).more B1.out.size) HL.out).mono ?_
    rintro e w2 ⟨D2, t2, rfl, o2, b2⟩
    have r2 := Lib.hid (K.below b2 r1.out)
    have B2 := Lib.hid (bthen B1.out b2)
    clear b2
    go_wp2_with fail
    refine (PO.out D2 t2 _ (RB.of_own o2)).mono ?_
    rintro e w3 ⟨G3, g3, rfl, o3, b3⟩
    have r3 := Lib.hid (K.below b3 r2.out)
    have B3 := Lib.hid (bthen B2.out b3)
    clear b3 o2 o3
    obtain ⟨⟨c0, c1, c2, c3, c4⟩, -⟩ := K.row5 r3.out
    go_wp2_with fail
    refine (SO.out D1 t1 _).mono ?_
    rintro e w4 ⟨rfl, b4⟩
    have B4 := Lib.hid (bthen B3.out b4)
    clear b4 c0 c1 c2 c3 c4
    go_wp2
    go_ret
    exact ⟨rfl, B4.out⟩
  · have SO := Lib.hid (fun (D : Option Addr) (d : Nat) (v : World) => by have h := specEtherOk x D m d v (by omega); rw [hok] at h; exact h)
    obtain ⟨rc, rx, rb⟩ := read_back x ds (by rw [hm]; exact hok)
    rw [hes] at rc rx rb
    have ro : ∀ (D : Option Addr) (d : Nat) (v : World), RB v v.heap.size D es → q ≤ d → Calls Try.prog 23 #[.slice D q d] v fun e v' => ∃ A c, e = .returned (.tuple #[.agg #[.int .i64 x.d, .int .i64 x.s, .int .i64 x.t, .int .i64 x.k, .slice A m c], .int .i64 0]) ∧ v'.ownsRow v.heap.size 5 1 (.slice A m c) m (cellsOf ds) ∧ Below v.heap.size v v' := by
      intro D d v h hd
      have h := implER D q d es v h hq (by omega) hd
      unfold EROut at h
      rwa [rc, rx, rb, hm] at h
    have RO := Lib.hid ro
    clear ro rc rx rb hok hes hq hm
    go_enter Try.func7, Try.ntmps7
    go_wp2_with fail
    refine (BG.out _).mono ?_
    rintro e w0 ⟨rfl, rfl⟩
    go_wp2_with fail
    refine (DR.out w A n c R0.out HL.out).mono ?_
    rintro e w1 ⟨D1, t1, rfl, o1, b1⟩
    have r1 := Lib.hid (K.new w1 (.cells #[.int .i64 x.d, .int .i64 x.s, .int .i64 x.t, .int .i64 x.k, .slice D1 m t1] 27))
    have O1 := Lib.hid (o1.alloc (.cells #[.int .i64 x.d, .int .i64 x.s, .int .i64 x.t, .int .i64 x.k, .slice D1 m t1] 27))
    have B1 := Lib.hid (bthen b1 (Joins.below_alloc1 w1 (.cells #[.int .i64 x.d, .int .i64 x.s, .int .i64 x.t, .int .i64 x.k, .slice D1 m t1] 27)))
    clear b1 o1
    go_wp2_with fail
    refine (DR.out _ A n c ((R0.out.below B1.out).more B1.out.size) HL.out).mono ?_
    rintro e w2 ⟨D2, t2, rfl, o2, b2⟩
    have r2 := Lib.hid (K.below b2 r1.out)
    have O2 := Lib.hid (own_below O1.out b2)
    have B2 := Lib.hid (bthen B1.out b2)
    clear b2
    go_wp2_with fail
    refine (PO.out D2 t2 _ (RB.of_own o2)).mono ?_
    rintro e w3 ⟨G3, g3, rfl, o3, b3⟩
    have r3 := Lib.hid (K.below b3 r2.out)
    have O3 := Lib.hid (own_below O2.out b3)
    have B3 := Lib.hid (bthen B2.out b3)
    clear b3 o2
    obtain ⟨⟨c0, c1, c2, c3, c4⟩, -⟩ := K.row5 r3.out
    go_wp2_with fail
    refine (SO.out D1 t1 _).mono ?_
    rintro e w4 ⟨rfl, b4⟩
    have r4 := Lib.hid (K.below b4 r3.out)
    have O4 := Lib.hid (own_below O3.out b4)
    have o4 := own_below o3 b4
    have B4 := Lib.hid (bthen B3.out b4)
    clear b4 o3 c0 c1 c2 c3 c4
    go_wp2_with fail
    refine (RO.out G3 g3 _ (RB.of_own o4) (own_cap o4)).mono ?_
    rintro e w5 ⟨D5, t5, rfl, o5, b5⟩
    have r5 := Lib.hid (K.old (K.below b5 r4.out) (.cells #[.int .i64 x.d, .int .i64 x.s, .int .i64 x.t, .int .i64 x.k, .slice D5 m t5] 27))
    have s5 := Lib.hid (K.new w5 (.cells #[.int .i64 x.d, .int .i64 x.s, .int .i64 x.t, .int .i64 x.k, .slice D5 m t5] 27))
    have O5 := Lib.hid ((own_below O4.out b5).alloc (.cells #[.int .i64 x.d, .int .i64 x.s, .int .i64 x.t, .int .i64 x.k, .slice D5 m t5] 27))
    have P5 := Lib.hid (o5.alloc (.cells #[.int .i64 x.d, .int .i64 x.s, .int .i64 x.t, .int .i64 x.k, .slice D5 m t5] 27))
    have B5 := Lib.hid (bthen (bthen B4.out b5) (Joins.below_alloc1 w5 (.cells #[.int .i64 x.d, .int .i64 x.s, .int .i64 x.t, .int .i64 x.k, .slice D5 m t5] 27)))
    clear b5 o5 o4
    obtain ⟨⟨c0, c1, c2, c3, c4⟩, -⟩ := K.row5 r5.out
    obtain ⟨⟨d0, d1, d2, d3, d4⟩, -⟩ := K.row5 s5.out
    go_wp2_with fail
    refine (sameC x D5 D1 m t5 t1 ds _ (RB.of_own P5.out) (RB.of_own O5.out) HM.out).mono ?_
    rintro e w6 ⟨rfl, b6⟩
    have B6 := Lib.hid (bthen B5.out b6)
    clear b6 c0 c1 c2 c3 c4 d0 d1 d2 d3 d4
    go_wp2
    go_ret
    exact ⟨rfl, B6.out⟩

theorem lawEtherBack {w : World} (A : Option Addr) (n c : Nat) (bs : List UInt8) (h : In w A n c bs) : Calls Try.prog 7 #[.slice A n c] w fun e w' => e = .returned (.bool true) ∧ Below w.heap.size w w' := by
  by_cases hb : n ≤ 1048576
  · exact lawBack_small A n c bs h.rb h.len hb
  · exact lawBack_big A n c (by omega)

namespace fnEtherBack
open Go.ChangeShapes Go.WideShapes Go.ChangeAt Go.RowKit
open Go.ChangeMaps (open_string shut_string)
theorem own : ownKnob Try.prog.godebug = none := by kernel_rfl
theorem laidOut : laidOutB Try.prog = true := by kernel_rfl

set_option maxRecDepth 100000 in
theorem lifted (os : Os) (started : os.Started) (H : Type) (enc : TypeId × Value → H) :
    ReturnsInHanded {} Try.checked os 7 .any (Rows.fnEtherBackSpec.pre6 enc Try.prog Try.f7 Rows.fnEtherBackRow.domain false) (Rows.fnEtherBackSpec.post enc Try.prog Try.f7 false true false false) := by
  refine returnsInHanded_of_change (C := Try.checked) own started (by kernel_rfl) Try.func7
    (ChangeSpec.witness6 (enc := enc) (C := Try.checked) false ⟨#[], #[.slice none 0 0], []⟩ 8 (by kernel_rfl) (by kernel_rfl) (by kernel_rfl) (by kernel_rfl)) ?_
  intro W base args ds gs before hval0 hW _ _
  have hval : ∀ (j : Nat) t v, Try.f7.params[j]? = some t → args[j]? = some v → Value.okWide Try.prog W .any base t v := hval0
  have hW' := hW
  obtain ⟨p, q, hA0, hV, rfl, _, _⟩ := hW
  have hA : DataW.TrodAll enc Try.prog W 0 (fun _ => true) true Try.f7.params.toList args.toList ds p := hA0
  rw [Try.params7] at hA hval
  obtain ⟨v0, vs0, d0, ds0, p0, q0, hargs, rfl, rfl, h0, r0⟩ := trodAll_cons hA
  obtain ⟨rfl, rfl, rfl⟩ := trodAll_nil r0
  obtain rfl : args = #[v0] := by cases args; simp_all
  obtain ⟨rfl, rfl⟩ := trodVars_none hV
  obtain ⟨a0, n0, c0, rfl⟩ := okWide_slice Try.underlying22 (hval 0 22 v0 rfl rfl)
  have k0 := h0
  have lt0 : ∀ x ∈ p0, x.block < W.heap.size := by obtain ⟨m, hm⟩ := k0; exact DataW.trod_lt m _ _ _ hm
  obtain ⟨b0, w0⟩ := bytes_in h0
  clear hA0 hval0
  refine (lawEtherBack a0 n0 c0 b0 w0).mono fun e W' ⟨he, bel⟩ => ?_
  subst he
  exact ⟨_, rfl, _, _, _, [], _, [], hW', trodAll_mk1 (shut_bool Try.underlying4 _), (trodAll_cons_mk (Below.trod laidOut (by kernel_rfl) (of_decide_eq_true (by kernel_rfl)) k0 bel lt0) trodAll_mk0), rfl, bel.frame _, fun h => by cases h⟩

theorem proved : Rows.FnEtherBackSaid :=
  OpenClaim.holds_of_wide 7 Try.f7 rfl rfl rfl rfl rfl rfl rfl ⟨rfl, rfl, rfl, rfl, rfl⟩ rfl rfl rfl rfl rfl (by kernel_rfl) Try.func7 (by kernel_rfl)
    (of_decide_eq_true (by kernel_rfl)) (by unfold Func.isWrapper; rw [if_neg (of_decide_eq_false (by kernel_rfl))]; exact ⟨rfl, rfl⟩)
    (fun os started H enc _ => lifted os started H enc)
#print axioms proved
end fnEtherBack
end Go.Proofs.Ytaemonjiejgciaa
