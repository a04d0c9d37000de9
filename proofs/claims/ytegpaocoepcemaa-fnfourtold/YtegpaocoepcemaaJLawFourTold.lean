/-
  For all bytes as a code the law FnFourTold returns true: the packet that the model draws from the code, encoded by impl.FourBytes, is not decoded by impl.FourRead once a byte of its header other than the first was changed. No condition; the argument reads afterwards as before.
-/
import Derived.Test.YtegpaocoepcemaaKdA
import Derived.Test.YtegpaocoepcemaaKdG
import Derived.Test.YtegpaocoepcemaaKdD
import Derived.Test.YtegpaocoepcemaaFourOkS
import Derived.Test.YtegpaocoepcemaaKdH
import Derived.Test.YtegpaocoepcemaaRows
import Derived.ShutString
namespace Go.Proofs.Ytegpaocoepcemaa
set_option maxRecDepth 100000
open Go.RowKit

section
variable {o : Oper} {a : Act} {w : World} {K : Act → World → Prop} {Q : Exit → Act → World → Prop}
theorem v_move (x : Operand) (v : Value) (ho : o.op = .move x) (hx : a.eval x = v) (hK : K (a.put o.dst v) w) : o.wp Try.prog a w K Q := by
  unfold Oper.wp execOp
  simp only [ho, hx]
  go_simp
  exact hK
theorem v_idxB (x y : Operand) (g n c k : Nat) (ho : o.op = .indexAddr 28 x y) (hx : a.eval x = .slice (some ⟨g, 0, none⟩) n c) (hy : a.eval y = .int .i64 (k : Int)) (hk : k < n) (hK : K (a.put o.dst (.pointer (some ⟨g, k, none⟩))) w) : o.wp Try.prog a w K Q := by
  unfold Oper.wp execOp
  simp only [ho, hx, hy]
  go_simp
  exact hK
theorem v_u8 (x : Operand) (g j : Nat) (v : Value) (ho : o.op = .load 5 x) (hx : a.eval x = .pointer (some ⟨g, j, none⟩)) (hc : w.cell? ⟨g, j, none⟩ = some v) (hK : K (a.put o.dst v) w) : o.wp Try.prog a w K Q := by
  unfold Oper.wp execOp
  simp only [ho, hx]
  go_simp
  exact hK
theorem v_add (x y : Operand) (m n : Int) (ho : o.op = .binOp .add 3 x y 3) (hx : a.eval x = .int .i64 m) (hy : a.eval y = .int .i64 n) (h0 : -4611686018427387904 ≤ m) (h1 : m ≤ 4611686018427387904) (h2 : -4611686018427387904 < n) (h3 : n < 4611686018427387904) (hK : K (a.put o.dst (.int .i64 (m + n))) w) : o.wp Try.prog a w K Q := by
  unfold Oper.wp execOp
  simp only [ho, hx, hy]
  go_simp
  rw [show IntKind.i64.wrap (m + n) = m + n by rw [IntKind.wrap_i64]; omega]
  exact hK
theorem v_add8 (x y : Operand) (m n : Int) (ho : o.op = .binOp .add 5 x y 5) (hx : a.eval x = .int .u8 m) (hy : a.eval y = .int .u8 n) (hK : K (a.put o.dst (.int .u8 ((m + n) % 256))) w) : o.wp Try.prog a w K Q := by
  unfold Oper.wp execOp
  simp only [ho, hx, hy]
  go_simp
  rw [show IntKind.u8.wrap (m + n) = (m + n) % 256 by rw [IntKind.wrap_u8]]
  exact hK
theorem v_byte (x : Operand) (m : Int) (ho : o.op = .convert 3 5 x) (hx : a.eval x = .int .i64 m) (h0 : 0 ≤ m) (h1 : m ≤ 255) (hK : K (a.put o.dst (.int .u8 m)) w) : o.wp Try.prog a w K Q := by
  unfold Oper.wp execOp
  simp only [ho, hx]
  go_simp
  rw [show IntKind.u8.wrap m = m by rw [IntKind.wrap_u8]; omega]
  exact hK
theorem v_pickl (x : Operand) (y z u : Value) {ts : Array TypeId} (ho : o.op = .call { callee := .value (.func 32), args := #[x, .const y, .const z], argTypes := ts }) (hx : a.eval x = u)
    (h : Calls Try.prog 32 #[u, y, z] w fun e w' => ∃ v, e = .returned v ∧ K (a.put o.dst v) w') : o.wp Try.prog a w K Q := by
  unfold Oper.wp execOp
  simp only [ho, resolve, List.map_toArray, List.map_cons, List.map_nil, hx, show ∀ c, a.eval (.const c) = c from fun _ => rfl, show ∀ f, a.eval (.func f) = .func (.func f) #[] #[] from fun _ => rfl]
  go_simp
  exact h.mono fun e w' ⟨u, he, hk⟩ => by subst he; exact hk
end

set_option maxHeartbeats 400000 in
theorem lawFT_big {w : World} (A : Option Addr) (n c : Nat) (h : (1048576 : Int) < n) : Calls Try.prog 10 #[.slice A n c] w fun e w' => e = .returned (.bool true) ∧ Below w.heap.size w w' := by
  have H := Lib.hid (fun v => bigF A n c true v (by simpa using h))
  go_enter Try.func10, Try.ntmps10
  go_wp2_with fail
  refine (H.out _).mono ?_
  rintro e w1 ⟨rfl, rfl⟩
  go_wp2
  go_ret
  exact ⟨rfl, Below.refl _ _⟩

theorem set_byte (es : List UInt8) (y : Nat) (b : UInt8) : (cellsOf es).set y (.int .u8 (b.toNat : Int)) = cellsOf (es.set y b) := by simp [cellsOf, List.map_set]

set_option maxHeartbeats 4000000 in
theorem lawFT_small {w : World} (A : Option Addr) (n c : Nat) (bs : List UInt8) (hr : RB w w.heap.size A bs) (hl : bs.length = n) (hn : n ≤ 1048576) : Calls Try.prog 10 #[.slice A n c] w fun e w' => e = .returned (.bool true) ∧ Below w.heap.size w w' := by
  obtain ⟨x, os, ds, hos, hds, hd⟩ := drawFourE bs (by omega)
  obtain ⟨a, ha⟩ : ∃ a, os.length = a := ⟨_, rfl⟩
  obtain ⟨m, hm⟩ : ∃ m, ds.length = m := ⟨_, rfl⟩
  rw [ha, hm] at hd
  rw [ha] at hos
  rw [hm] at hds
  obtain ⟨es, hes⟩ : ∃ es, x.bytes os ds = es := ⟨_, rfl⟩
  obtain ⟨q, hq⟩ : ∃ q, es.length = q := ⟨_, rfl⟩
  have hq2 : q ≤ 1500 := by rw [← hq, ← hes]; exact x.bytes_length os ds
  have DR := Lib.hid hd
  have BG := Lib.hid (fun v => bigF A n c false v (by simp; omega))
  have HL := Lib.hid hl
  have HA := Lib.hid ha
  have HM := Lib.hid hm
  have HS := Lib.hid hes
  have HQ := Lib.hid hq
  have R0 := Lib.hid hr
  clear hd hr hl
  cases hok : x.ok a m
  · have SO := Lib.hid (fun (D E : Option Addr) (d e : Nat) (v : World) => by have h := specFourOk x D E a d m e v (by omega); rw [hok] at h; exact h)
    clear hok hes hq hm ha
    go_enter Try.func10, Try.ntmps10
    go_wp2_with fail
    refine (BG.out _).mono ?_
    rintro e w0 ⟨rfl, rfl⟩
    go_wp2_with fail
    refine (DR.out w A n c R0.out HL.out).mono ?_
    rintro e w1 ⟨O1, p1, D1, t1, rfl, o1, d1, b1⟩
    have r1 := Lib.hid (K.new w1 (.cells #[.int .i64 x.dscp, .int .i64 x.ecn, .int .i64 x.id, .int .i64 x.flags, .int .i64 x.frag, .int .i64 x.ttl, .int .i64 x.proto, .int .i64 x.src.k, .int .i64 x.src.a, .int .i64 x.src.b, .int .i64 x.src.c, .int .i64 x.src.d, .int .i64 x.dst.k, .int .i64 x.dst.a, .int .i64 x.dst.b, .int .i64 x.dst.c, .int .i64 x.dst.d, .slice O1 a p1, .slice D1 m t1] 52))
    have B1 := Lib.hid (bthen b1 (Joins.below_alloc1 w1 (.cells #[.int .i64 x.dscp, .int .i64 x.ecn, .int .i64 x.id, .int .i64 x.flags, .int .i64 x.frag, .int .i64 x.ttl, .int .i64 x.proto, .int .i64 x.src.k, .int .i64 x.src.a, .int .i64 x.src.b, .int .i64 x.src.c, .int .i64 x.src.d, .int .i64 x.dst.k, .int .i64 x.dst.a, .int .i64 x.dst.b, .int .i64 x.dst.c, .int .i64 x.dst.d, .slice O1 a p1, .slice D1 m t1] 52)))
    clear b1 o1 d1
    go_wp2_with (first | (with_reducible refine storeNewF rfl _ _ rfl rfl rfl ?_) | (with_reducible refine loadF rfl _ rfl w1.heap.size rfl r1.out ?_))
    refine (SO.out O1 D1 p1 t1 _).mono ?_
    rintro e w4 ⟨rfl, b4⟩
    have B4 := Lib.hid (bthen B1.out b4)
    clear b4
    go_wp2
    go_ret
    exact ⟨rfl, B4.out⟩
  · have SO := Lib.hid (fun (D E : Option Addr) (d e : Nat) (v : World) => by have h := specFourOk x D E a d m e v (by omega); rw [hok] at h; exact h)
    have hqe : q = 20 + a + m := by rw [← hq, ← hes, Fh.bytes, ha, hm, hok, if_pos rfl, List.length_append, Fh.head_length, ha, hm]
    have hpr := pickV_rangeW bs 4 (19 + (a : Int)) (by omega)
    obtain ⟨y0, hy0⟩ : ∃ y : Nat, pickVW bs 4 (19 + (a : Int)) = y := ⟨(pickVW bs 4 (19 + (a : Int))).toNat, by omega⟩
    have PK4 := Lib.hid (fun v (hv : RB v v.heap.size A bs) => by have h := pickLW A n c bs 4 (19 + (a : Int)) v hv HL.out (by omega) (by omega) (by omega) (by omega) (by omega); rw [hy0] at h; exact h)
    rw [hy0] at hpr
    have hzr := pickV_rangeW bs 5 255 (by omega)
    obtain ⟨z, hz⟩ : ∃ z : Nat, pickVW bs 5 255 = z := ⟨(pickVW bs 5 255).toNat, by omega⟩
    have PK5 := Lib.hid (fun v (hv : RB v v.heap.size A bs) => by have h := pickLW A n c bs 5 255 v hv HL.out (by omega) (by omega) (by omega) (by omega) (by omega); rw [hz] at h; exact h)
    rw [hz] at hzr
    clear hy0 hz
    obtain ⟨y, hy⟩ : ∃ y : Nat, 1 + (y0 : Int) = y := ⟨1 + y0, by omega⟩
    have hy1 : 1 ≤ y := by omega
    have hyq : y < q := by omega
    have hyq2 : y < es.length := by rw [hq]; exact hyq
    have hyh : y < 20 + os.length := by rw [ha]; omega
    have hbl := UInt8.toNat_lt es[y]
    obtain ⟨bn, hbn⟩ : ∃ k : Nat, es[y].toNat = k := ⟨_, rfl⟩
    have hb2 : (UInt8.ofNat ((bn + (1 + z)) % 256)).toNat = (bn + (1 + z)) % 256 := by simp
    obtain ⟨F, hF⟩ : ∃ F, es.set y (UInt8.ofNat ((bn + (1 + z)) % 256)) = F := ⟨_, rfl⟩
    have hFl : F.length = q := by rw [← hF, List.length_set, hq]
    have hne : frc F ≠ 0 := by
      rw [← hF, ← hes]
      refine four_told (by rw [ha, hm]; exact hok) y hy1 hyh _ (by rw [hes]; exact hyq2) (fun e => ?_)
      have e2 := congrArg UInt8.toNat e
      rw [hb2] at e2
      have e3 : ((x.bytes os ds)[y]'(by rw [hes]; exact hyq2)).toNat = bn := by
        rw [← hbn]
        congr 1
        simp only [hes]
      omega
    have HCF := Lib.hid (show (cellsOf es).set y (.int .u8 (((bn : Int) + (1 + (z : Int))) % 256)) = cellsOf F by
      rw [← hF, ← set_byte, hb2]
      congr 2)
    obtain ⟨kf, hkf⟩ : ∃ k, frc F = k := ⟨_, rfl⟩
    rw [hkf] at hne
    have RO := Lib.hid (fun (D : Option Addr) (d : Nat) (v : World) (h : RB v v.heap.size D F) (hd : q ≤ d) => by
      have h := implFourRead D q d F v h hFl (by omega) hd
      unfold FROut at h
      rw [hkf] at h
      exact h)
    have HNE := Lib.hid (show (kf != 0) = true by simpa using hne)
    have HB2 := Lib.hid (show (cellsOf es)[y]? = some (.int .u8 (bn : Int)) by rw [← hbn]; exact cellsOf_get es y _ (List.getElem?_eq_getElem hyq2))
    have hq20 : 20 ≤ q := by omega
    clear hok hes hq hm ha hbn hb2 hF hFl hkf hbl hyq2 hyh hqe hne
    go_enter Try.func10, Try.ntmps10
    go_wp2_with fail
    refine (BG.out _).mono ?_
    rintro e w0 ⟨rfl, rfl⟩
    go_wp2_with fail
    refine (DR.out w A n c R0.out HL.out).mono ?_
    rintro e w1 ⟨O1, p1, D1, t1, rfl, o1, d1, b1⟩
    have r1 := Lib.hid (K.new w1 (.cells #[.int .i64 x.dscp, .int .i64 x.ecn, .int .i64 x.id, .int .i64 x.flags, .int .i64 x.frag, .int .i64 x.ttl, .int .i64 x.proto, .int .i64 x.src.k, .int .i64 x.src.a, .int .i64 x.src.b, .int .i64 x.src.c, .int .i64 x.src.d, .int .i64 x.dst.k, .int .i64 x.dst.a, .int .i64 x.dst.b, .int .i64 x.dst.c, .int .i64 x.dst.d, .slice O1 a p1, .slice D1 m t1] 52))
    have B1 := Lib.hid (bthen b1 (Joins.below_alloc1 w1 (.cells #[.int .i64 x.dscp, .int .i64 x.ecn, .int .i64 x.id, .int .i64 x.flags, .int .i64 x.frag, .int .i64 x.ttl, .int .i64 x.proto, .int .i64 x.src.k, .int .i64 x.src.a, .int .i64 x.src.b, .int .i64 x.src.c, .int .i64 x.src.d, .int .i64 x.dst.k, .int .i64 x.dst.a, .int .i64 x.dst.b, .int .i64 x.dst.c, .int .i64 x.dst.d, .slice O1 a p1, .slice D1 m t1] 52)))
    clear b1 o1 d1
    go_wp2_with (first | (with_reducible refine storeNewF rfl _ _ rfl rfl rfl ?_) | (with_reducible refine loadF rfl _ rfl w1.heap.size rfl r1.out ?_))
    refine (SO.out O1 D1 p1 t1 _).mono ?_
    rintro e w2 ⟨rfl, b2⟩
    have r2 := Lib.hid (K.below b2 r1.out)
    have B2 := Lib.hid (bthen B1.out b2)
    clear b2
    go_wp2_with fail
    refine (DR.out _ A n c ((R0.out.below B2.out).more B2.out.size) HL.out).mono ?_
    rintro e w3 ⟨O2, p2, D2, t2, rfl, o2, d2, b3⟩
    have r3 := Lib.hid (K.below b3 r2.out)
    have B3 := Lib.hid (bthen B2.out b3)
    have E2 := Lib.hid (And.intro (RB.of_own o2) (RB.of_own d2))
    clear b3 o2 d2
    go_wp2_with fail
    refine (fbI2 x O2 D2 a p2 m t2 os ds es q _ E2.out.1 HA.out E2.out.2 HM.out HS.out HQ.out).mono ?_
    rintro e w4 ⟨G3, g3, rfl, o4, b4⟩
    have r4 := K.below b4 r3.out
    have c17 := K.cell r4 17 _ rfl
    have B4 := Lib.hid (bthen B3.out b4)
    obtain ⟨gb, rfl, hgb⟩ := own_some o4 (by omega)
    have O4 := Lib.hid (own_base o4 (show w.heap.size ≤ w3.heap.size from B3.out.size))
    have CB : Hid (w4.cell? ⟨gb, y, none⟩ = some (.int .u8 (bn : Int))) := Lib.hid (by rw [o4.cellAt y (by omega)]; exact HB2.out)
    clear b4 o4 E2 r4 hgb
    go_wp2_with fail
    refine (PK4.out _ ((R0.out.below B4.out).more B4.out.size)).mono ?_
    rintro e w5 ⟨rfl, rfl⟩
    clear c17
    go_wp2_with fail
    refine wp_region_facts (by kernel_rfl) 12 49 [(0, 29), (1, 30), (2, 31), (3, 32), (4, 33), (5, 34), (6, 35), (7, 36), (8, 37), (9, 38), (10, 39), (11, 40)] _ ([.val (.slice (some ⟨gb, 0, none⟩) q g3), .val (.int .i64 (y : Int)), .val (.slice (some ⟨gb, 0, none⟩) q g3), .val (.int .i64 (y : Int)), .val (.pointer (some ⟨gb, y, none⟩)), .val (.int .u8 (bn : Int)), .val (.slice A n c), .val (.int .i64 (z : Int)), .val (.int .i64 (1 + (z : Int))), .val (.int .u8 (1 + (z : Int))), .val (.int .u8 (((bn : Int) + (1 + (z : Int))) % 256)), .val (.pointer (some ⟨gb, y, none⟩))]) (by kernel_rfl) (by kernel_rfl) rfl rfl ?_ ?_
    · intro j o hj ho a' v K' hx hnd hB hK
      match j, hj, ho with
      | 0, _, ho =>
        obtain rfl := Option.some.inj ho
        have h0 : a'.eval (.tmp 4) = .slice (some ⟨gb, 0, none⟩) q g3 := (hx 4 (by decide)).trans rfl
        exact v_move _ _ rfl h0 (hK _ _ rfl (Below.refl _ _))
      | 1, _, ho =>
        obtain rfl := Option.some.inj ho
        have h0 : a'.eval (.tmp 5) = .int .i64 (y : Int) := (hx 5 (by decide)).trans rfl
        exact v_move _ _ rfl h0 (hK _ _ rfl (Below.refl _ _))
      | 2, _, ho =>
        obtain rfl := Option.some.inj ho
        have h0 : a'.eval (.tmp 4) = .slice (some ⟨gb, 0, none⟩) q g3 := (hx 4 (by decide)).trans rfl
        exact v_move _ _ rfl h0 (hK _ _ rfl (Below.refl _ _))
      | 3, _, ho =>
        obtain rfl := Option.some.inj ho
        have h0 : a'.eval (.tmp 5) = .int .i64 (y : Int) := (hx 5 (by decide)).trans rfl
        exact v_move _ _ rfl h0 (hK _ _ rfl (Below.refl _ _))
      | 4, _, ho =>
        obtain rfl := Option.some.inj ho
        have h0 : a'.eval (.tmp 31) = .slice (some ⟨gb, 0, none⟩) q g3 := (fact_of hnd 2 31 (by kernel_rfl) :)
        have h1 : a'.eval (.tmp 32) = .int .i64 (y : Int) := (fact_of hnd 3 32 (by kernel_rfl) :)
        exact v_idxB _ _ _ _ _ _ rfl h0 h1 (by omega) (hK _ _ rfl (Below.refl _ _))
      | 5, _, ho =>
        obtain rfl := Option.some.inj ho
        have h0 : a'.eval (.tmp 33) = .pointer (some ⟨gb, y, none⟩) := (fact_of hnd 4 33 (by kernel_rfl) :)
        exact v_u8 _ _ _ _ rfl h0 (cell_on hB CB.out) (hK _ _ rfl (Below.refl _ _))
      | 6, _, ho =>
        obtain rfl := Option.some.inj ho
        have h0 : a'.eval (.tmp 0) = .slice A n c := (hx 0 (by decide)).trans rfl
        exact v_move _ _ rfl h0 (hK _ _ rfl (Below.refl _ _))
      | 7, _, ho =>
        obtain rfl := Option.some.inj ho
        have h0 : a'.eval (.tmp 35) = .slice A n c := (fact_of hnd 6 35 (by kernel_rfl) :)
        refine v_pickl _ _ _ _ rfl h0 (Calls.mono (PK5.out v ((R0.out.below (bthen B4.out hB)).more (bthen B4.out hB).size)) ?_)
        rintro e' v' ⟨rfl, rfl⟩
        exact ⟨_, rfl, hK _ _ rfl (Below.refl _ _)⟩
      | 8, _, ho =>
        obtain rfl := Option.some.inj ho
        have h0 : a'.eval (.tmp 36) = .int .i64 (z : Int) := (fact_of hnd 7 36 (by kernel_rfl) :)
        exact v_add _ _ _ _ rfl rfl h0 (by omega) (by omega) (by omega) (by omega) (hK _ _ rfl (Below.refl _ _))
      | 9, _, ho =>
        obtain rfl := Option.some.inj ho
        have h0 : a'.eval (.tmp 37) = .int .i64 (1 + (z : Int)) := (fact_of hnd 8 37 (by kernel_rfl) :)
        exact v_byte _ _ rfl h0 (by omega) (by omega) (hK _ _ rfl (Below.refl _ _))
      | 10, _, ho =>
        obtain rfl := Option.some.inj ho
        have h0 : a'.eval (.tmp 34) = .int .u8 (bn : Int) := (fact_of hnd 5 34 (by kernel_rfl) :)
        have h1 : a'.eval (.tmp 38) = .int .u8 (1 + (z : Int)) := (fact_of hnd 9 38 (by kernel_rfl) :)
        exact v_add8 _ _ _ _ rfl h0 h1 (hK _ _ rfl (Below.refl _ _))
      | 11, _, ho =>
        obtain rfl := Option.some.inj ho
        have h0 : a'.eval (.tmp 29) = .slice (some ⟨gb, 0, none⟩) q g3 := (fact_of hnd 0 29 (by kernel_rfl) :)
        have h1 : a'.eval (.tmp 30) = .int .i64 (y : Int) := (fact_of hnd 1 30 (by kernel_rfl) :)
        exact v_idxB _ _ _ _ _ _ rfl h0 h1 (by omega) (hK _ _ rfl (Below.refl _ _))
      | j + 12, hj, _ => omega
    · intro f v hf hB
      have e0 : f 0 = (.slice (some ⟨gb, 0, none⟩) q g3) := hf (0, 29) (by decide)
      have e1 : f 1 = (.int .i64 (y : Int)) := hf (1, 30) (by decide)
      have e2 : f 2 = (.slice (some ⟨gb, 0, none⟩) q g3) := hf (2, 31) (by decide)
      have e3 : f 3 = (.int .i64 (y : Int)) := hf (3, 32) (by decide)
      have e4 : f 4 = (.pointer (some ⟨gb, y, none⟩)) := hf (4, 33) (by decide)
      have e5 : f 5 = (.int .u8 (bn : Int)) := hf (5, 34) (by decide)
      have e6 : f 6 = (.slice A n c) := hf (6, 35) (by decide)
      have e7 : f 7 = (.int .i64 (z : Int)) := hf (7, 36) (by decide)
      have e8 : f 8 = (.int .i64 (1 + (z : Int))) := hf (8, 37) (by decide)
      have e9 : f 9 = (.int .u8 (1 + (z : Int))) := hf (9, 38) (by decide)
      have e10 : f 10 = (.int .u8 (((bn : Int) + (1 + (z : Int))) % 256)) := hf (10, 39) (by decide)
      have e11 : f 11 = (.pointer (some ⟨gb, y, none⟩)) := hf (11, 40) (by decide)
      simp only [List.foldl_cons, List.foldl_nil, List.drop_succ_cons, List.drop_zero, e0, e1, e2, e3, e4, e5, e6, e7, e8, e9, e10, e11]
      clear e0 e1 e2 e3 e4 e5 e6 e7 e8 e9 e10 e11 hf
      go_simp
      have OV := Lib.hid (own_below O4.out hB)
      have BV := Lib.hid (bthen B4.out hB)
      clear hB
      have u0 := OV.out.cellAt y (by omega)
      have f0 := OV.out.frozenAt y
      rw [HB2.out] at u0
      have OS := Lib.hid (show (v.setCell ⟨gb, y, none⟩ (.int .u8 (((bn : Int) + (1 + (z : Int))) % 256))).ownsRow w.heap.size 5 1 (.slice (some ⟨gb, 0, none⟩) q g3) q (cellsOf F) by rw [← HCF.out]; exact (OV.out.stored y _).1)
      have BS := Lib.hid (BV.out.setCell (p := ⟨gb, y, none⟩) (OV.out.lt gb rfl).1 (.int .u8 (((bn : Int) + (1 + (z : Int))) % 256)))
      go_wp2_with fail
      refine Calls.mono (RO.out _ g3 _ (RB.of_own OS.out) (own_cap OS.out)) ?_
      rintro e w8 ⟨A8, c8, D8, d8, E8, g8, rfl, _, _, _, _, _, _, b8⟩
      have B8 := Lib.hid (bthen BS.out b8)
      clear b8
      go_wp2_with (with_reducible refine storeNewF rfl _ _ rfl rfl rfl ?_)
      go_ret
      exact ⟨ret_bool HNE.out, bthen B8.out (Joins.below_alloc1 w8 _)⟩

theorem lawFourTold {w : World} (A : Option Addr) (n c : Nat) (bs : List UInt8) (h : In w A n c bs) : Calls Try.prog 10 #[.slice A n c] w fun e w' => e = .returned (.bool true) ∧ Below w.heap.size w w' := by
  by_cases hb : n ≤ 1048576
  · exact lawFT_small A n c bs h.rb h.len hb
  · exact lawFT_big A n c (by omega)

namespace fnFourTold
open Go.ChangeShapes Go.WideShapes Go.ChangeAt Go.RowKit
open Go.ChangeMaps (open_string shut_string)
theorem own : ownKnob Try.prog.godebug = none := by kernel_rfl
theorem laidOut : laidOutB Try.prog = true := by kernel_rfl

set_option maxRecDepth 100000 in
theorem lifted (os : Os) (started : os.Started) (H : Type) (enc : TypeId × Value → H) :
    ReturnsInHanded {} Try.checked os 10 .any (Rows.fnFourToldSpec.pre6 enc Try.prog Try.f10 Rows.fnFourToldRow.domain false) (Rows.fnFourToldSpec.post enc Try.prog Try.f10 false true false false) := by
  refine returnsInHanded_of_change (C := Try.checked) own started (by kernel_rfl) Try.func10
    (ChangeSpec.witness6 (enc := enc) (C := Try.checked) false ⟨#[], #[.slice none 0 0], []⟩ 8 (by kernel_rfl) (by kernel_rfl) (by kernel_rfl) (by kernel_rfl)) ?_
  intro W base args ds gs before hval0 hW _ _
  have hval : ∀ (j : Nat) t v, Try.f10.params[j]? = some t → args[j]? = some v → Value.okWide Try.prog W .any base t v := hval0
  have hW' := hW
  obtain ⟨p, q, hA0, hV, rfl, _, _⟩ := hW
  have hA : DataW.TrodAll enc Try.prog W 0 (fun _ => true) true Try.f10.params.toList args.toList ds p := hA0
  rw [Try.params10] at hA hval
  obtain ⟨v0, vs0, d0, ds0, p0, q0, hargs, rfl, rfl, h0, r0⟩ := trodAll_cons hA
  obtain ⟨rfl, rfl, rfl⟩ := trodAll_nil r0
  obtain rfl : args = #[v0] := by cases args; simp_all
  obtain ⟨rfl, rfl⟩ := trodVars_none hV
  obtain ⟨a0, n0, c0, rfl⟩ := okWide_slice Try.underlying28 (hval 0 28 v0 rfl rfl)
  have k0 := h0
  have lt0 : ∀ x ∈ p0, x.block < W.heap.size := by obtain ⟨m, hm⟩ := k0; exact DataW.trod_lt m _ _ _ hm
  obtain ⟨b0, w0⟩ := bytes_in h0
  clear hA0 hval0
  refine (lawFourTold a0 n0 c0 b0 w0).mono fun e W' ⟨he, bel⟩ => ?_
  subst he
  exact ⟨_, rfl, _, _, _, [], _, [], hW', trodAll_mk1 (shut_bool Try.underlying4 _), (trodAll_cons_mk (Below.trod laidOut (by kernel_rfl) (of_decide_eq_true (by kernel_rfl)) k0 bel lt0) trodAll_mk0), rfl, bel.frame _, fun h => by cases h⟩

theorem proved : Rows.FnFourToldSaid :=
  OpenClaim.holds_of_wide 10 Try.f10 rfl rfl rfl rfl rfl rfl rfl ⟨rfl, rfl, rfl, rfl, rfl⟩ rfl rfl rfl rfl rfl (by kernel_rfl) Try.func10 (by kernel_rfl)
    (of_decide_eq_true (by kernel_rfl)) (by unfold Func.isWrapper; rw [if_neg (of_decide_eq_false (by kernel_rfl))]; exact ⟨rfl, rfl⟩)
    (fun os started H enc _ => lifted os started H enc)
#print axioms proved
end fnFourTold
end Go.Proofs.Ytegpaocoepcemaa
